/-
  A part of the proof.
-/
import Derived.Test.YtnffhcjmpjajlaaDoorKa1
import Derived.Test.YtnffhcjmpjajlaaDoorProg
import Derived.WalkKit
import Derived.WalkSpells
import Derived.Handy
import Derived.BigQuiet
import Derived.Deep.RegionHeld3
import Derived.Test.YtnffhcjmpjajlaaDoorKa3
import Derived.ChangeKeysEq
import Derived.Shelf.Small.Bits
import Derived.Shelf.Strconv.Itoa0
import Derived.Shelf.Bits.Mul64
import Derived.Deep.CutRange
import Derived.Deep.CutBlock
import Derived.ScopeJumps
import Derived.WalkMore
import Derived.Laws.StructEq
import Derived.Test.YtnffhcjmpjajlaaDoorKa2
import Derived.RegionTactic
import Derived.Deep.MidRow
import Derived.BigCall
import Derived.Lib.CutLaws
import Derived.Maps.OwnSet
import Derived.WalkArith
import Derived.StringKeys
import Derived.ProofKit
import Derived.OpenShut
import Derived.ChangeArms
import Derived.Deep.Slices
import Derived.ReadAgain
import Derived.WideKeyArgs
import Derived.Maps.AppendAt
import Derived.Test.YtnffhcjmpjajlaaDoorKa4
import Derived.Test.YtnffhcjmpjajlaaDoorKa8
import Derived.Test.YtnffhcjmpjajlaaDoorKa7
import Derived.Test.YtnffhcjmpjajlaaDoorKa6
import Derived.Test.YtnffhcjmpjajlaaDoorKa5
import Derived.Test.YtnffhcjmpjajlaaDoorKa11
import Derived.Shelf.Strconv.Itoa4
import Derived.Test.YtnffhcjmpjajlaaDoorKa10
import Derived.Test.YtnffhcjmpjajlaaDoorKa9
import Derived.Lib.IndexBytes
import Derived.Lib.AppendIntMem
import Derived.Lib.ItoaLen
namespace Go.Proofs.YtnffhcjmpjajlaaDoor
open Go.RowKit
abbrev dc (b : Bool) (n s : Int) : Value := .agg #[.bool b, .int .u64 (l0 n), .int .u64 (l1 n), .int .u64 (l2 n), .int .u64 (l3 n), .int .i64 s]
end Go.Proofs.YtnffhcjmpjajlaaDoor

namespace Go.Proofs.YtnffhcjmpjajlaaDoor
open Go.RowKit
def ab (v : Int) : Int := if v < 0 then -v else v
abbrev dz (v s : Int) : Value := dc (decide (v < 0)) (ab v) s
def fz (v s : Int) : Value := if ab v < MM then .tuple #[dz v s, .int .i64 0] else er 7
end Go.Proofs.YtnffhcjmpjajlaaDoor

namespace Go.Proofs.YtnffhcjmpjajlaaDoor
open Go.RowKit Go.Lib
theorem len_s (ρ : Operand → Value) (x : Operand) (s : ByteArray) (hx : ρ x = .string s) (dst : Option Tmp) (type : TypeId) (pos : String) (after : Array Edge) (guard : Option (Nat × Bool)) (w : World) : (execOp ρ { dst, op := .call { callee := .builtin .len, args := #[x], argTypes := #[9] }, type, pos, after, guard }).run Tryd.prog w = .ok (.value (.int .i64 (s.size : Int))) w := by
 simp [go_sem, hx]
end Go.Proofs.YtnffhcjmpjajlaaDoor

namespace Go.Proofs.YtnffhcjmpjajlaaDoor
open Go.RowKit Go.ChangeMaps
structure Mk (D : Nat → Prop) (w w' : World) : Prop where
 os : w'.os = w.os
 tape : w'.tape = w.tape
 output : w'.output = w.output
 size : w.heap.size ≤ w'.heap.size
 block : ∀ k, k < w.heap.size → ¬ D k → w'.heap[k]? = w.heap[k]?
 fz : ∀ a, w'.frozen? a = w.frozen? a
theorem Mk.refl (D : Nat → Prop) (w : World) : Mk D w w := ⟨rfl, rfl, rfl, Nat.le_refl _, fun _ _ _ => rfl, fun _ => rfl⟩
theorem Mk.of (D : Nat → Prop) {w w' : World} (h : Mo w w') : Mk D w w' := ⟨h.1.os, h.1.tape, h.1.output, h.1.size, fun k hk _ => h.1.block k hk, h.2⟩
theorem Mk.tr {D E : Nat → Prop} {a b c : World} (h : Mk D a b) (k : Mk E b c) (hE : ∀ j, j < a.heap.size → E j → D j) : Mk D a c :=
 ⟨k.os.trans h.os, k.tape.trans h.tape, k.output.trans h.output, Nat.le_trans h.size k.size, fun j hj hd => (k.block j (Nat.lt_of_lt_of_le hj h.size) (fun e => hd (hE j hj e))).trans (h.block j hj hd), fun x => (k.fz x).trans (h.fz x)⟩
theorem Mk.trans {D : Nat → Prop} {a b c : World} (h : Mk D a b) (k : Mo b c) : Mk D a c := h.tr (Mk.of D k) (fun _ _ e => e)
theorem Mk.same {D : Nat → Prop} {a b c : World} (h : Mk D a b) (k : Mk D b c) : Mk D a c := h.tr k (fun _ _ e => e)
theorem Mk.mono {D E : Nat → Prop} {a b : World} (h : Mk D a b) (hE : ∀ j, D j → E j) : Mk E a b := ⟨h.os, h.tape, h.output, h.size, fun k hk hd => h.block k hk (fun e => hd (hE k e)), h.fz⟩
theorem Mk.at {D : Nat → Prop} {w w' : World} (h : Mk D w w') {k : Nat} {vs : List Value} (hA : At w k vs) (hk : ¬ D k) : At w' k vs :=
 ⟨fun j v hv => (World.cell?_of_block (a := ⟨k, 0 + j, none⟩) (h.block k hA.2.2 hk)).trans (hA.1 j v hv), fun o => (h.fz _).trans (hA.2.1 o), Nat.lt_of_lt_of_le hA.2.2 h.size⟩
theorem Mk.mo {D : Nat → Prop} {a b c : World} (h : Mk D b c) (m : Mo a b) (hD : ∀ k, D k → a.heap.size ≤ k) : Mo a c :=
 ⟨⟨h.os.trans m.1.os, h.tape.trans m.1.tape, h.output.trans m.1.output, Nat.le_trans m.1.size h.size, fun k hk => (h.block k (Nat.lt_of_lt_of_le hk m.1.size) (fun e => by have := hD k e; omega)).trans (m.1.block k hk)⟩, fun x => (h.fz x).trans (m.2 x)⟩
theorem sn9 {a b : ByteArray} {r : Bool} (h : decide (a = b) = r) (x y : Operand) (w : World) : (do eqGuard .neq 9 x y (.string a) (.string b); binOp .neq 9 (.string a) (.string b)).run Tryd.prog w = .ok (.bool (!r)) w := by
 subst h; rw [← ba_eq]; simp [go_sem]
theorem notb (r : Bool) (w : World) : (Op.unary .not (.bool r)).run Tryd.prog w = .ok (.bool (!r)) w := by kernel_rfl
section
variable {P : Program} {o : Oper} {n : Nat} {l : List (Nat × Value)} {w : World} {ops : Array Oper} {rest : List Oper} {Q : Exit → Act → World → Prop} {K : Act → World → Prop} {c : Code}
theorem wl_callx (g : FuncId) (xs : List Operand) (ats : Array TypeId) (args : List Value) {F : Ending → World → Prop} (ho : o.op = .call { callee := .value (.func g), args := xs.toArray, argTypes := ats }) (hx : xs.map (evl n l) = args)
  (h : ∀ args w, (callFunc g args).run P w = .ok (.enter g args) w)
  (hc : Calls P g args.toArray w F) (hg : wnt n l ops o = true) (hk : ∀ v w', F v w' → ∃ u, v = .returned u ∧ WL P ops Q rest n (ext l o.dst u) w') : WL P ops Q (o :: rest) n l w := by
 have e : (execOp (evl n l) o).run P w = .ok (.enter g args.toArray) w := by
  obtain ⟨dst, op, ty, pos, after, guard⟩ := o
  simp only at ho
  subst ho hx
  have e2 := execOp_call_go (fr n l) dst g xs.toArray ats ty pos after guard
  rw [fr_eval] at e2
  rw [e2, h]
  simp
 refine ⟨l_step hg ?_⟩
 unfold Oper.wp; rw [fr_eval, e, Oper.upon_enter]
 refine hc.mono ?_
 intro e w' hF
 obtain ⟨u, rfl, hW⟩ := hk e w' hF
 show wpList _ _ _ _ _ _
 rw [fr_put]
 exact hW.out
theorem wl_callv (g : FuncId) (f : Operand) (fs cs : Array Value) (xs : List Operand) (ats : Array TypeId) (args all : List Value) {F : Ending → World → Prop} (ho : o.op = .call { callee := .value f, args := xs.toArray, argTypes := ats }) (hf : evl n l f = .func (.func g) fs cs) (hx : xs.map (evl n l) = args)
  (hall : fs ++ args.toArray ++ cs = all.toArray)
  (h : ∀ args w, (callFunc g args).run P w = .ok (.enter g args) w)
  (hc : Calls P g all.toArray w F) (hg : wnt n l ops o = true) (hk : ∀ v w', F v w' → ∃ u, v = .returned u ∧ WL P ops Q rest n (ext l o.dst u) w') : WL P ops Q (o :: rest) n l w := by
 have e : (execOp (evl n l) o).run P w = .ok (.enter g all.toArray) w := by
  obtain ⟨dst, op, ty, pos, after, guard⟩ := o
  simp only at ho
  subst ho hx
  have e2 : execOp (evl n l) { dst, op := .call { callee := .value f, args := xs.toArray, argTypes := ats }, type := ty, pos, after, guard } = (do let d ← Deferred.ofValue (evl n l f) (xs.toArray.map (evl n l)); invoke d.target d.args) := rfl
  rw [e2, hf]
  show (do let d ← Deferred.ofValue (.func (.func g) fs cs) (xs.toArray.map (evl n l)); invoke d.target d.args).run P w = _
  have e3 : (do let d ← Deferred.ofValue (.func (.func g) fs cs) (xs.toArray.map (evl n l)); invoke d.target d.args) = callFunc g (fs ++ xs.toArray.map (evl n l) ++ cs) := rfl
  rw [e3, h, List.map_toArray, hall]
 refine ⟨l_step hg ?_⟩
 unfold Oper.wp; rw [fr_eval, e, Oper.upon_enter]
 refine hc.mono ?_
 intro e w' hF
 obtain ⟨u, rfl, hW⟩ := hk e w' hF
 show wpList _ _ _ _ _ _
 rw [fr_put]
 exact hW.out
end
/-! Maps from names to whole numbers, and from names to flags. -/
variable {w w' : World} {b : Nat} {al : List (ByteArray × Int)}
end Go.Proofs.YtnffhcjmpjajlaaDoor

namespace Go.Proofs.YtnffhcjmpjajlaaDoor
open Go.ChangeShapes Go.WideShapes Go.ChangeAt Go.RowKit
theorem Mk.kp {D : Nat → Prop} {w w' : World} (m : Mk D w w') (hD : ∀ k, D k → ∀ o, w.cell? ⟨k, o, none⟩ = none) : Kp w w' := ⟨m.size, fun k o _ e => (World.cell?_of_block (a := ⟨k, o, none⟩) (m.block k (cell_lt e) (fun d => by rw [hD k d o] at e; cases e))).trans e⟩
namespace D
end D
end Go.Proofs.YtnffhcjmpjajlaaDoor

namespace Go.Proofs.YtnffhcjmpjajlaaDoor
open Go.RowKit D
theorem SL.of_at {w : World} {k n : Nat} {α : Type} {cells : α → List Value} (hl : ∀ x, (cells x).length = n) {L : List α} (hz : L.length ≤ maxLen) (h : At w k (L.flatMap cells)) : SL w n cells (some ⟨k, 0, none⟩) L := SL.of_range hl hz h.2.2 h.1
theorem own_form {w : World} {N e sz : Nat} {v : Value} {n : Nat} {xs : List Value} (h : w.ownsRow N e sz v n xs) : ∃ pa cap, v = .slice pa n cap ∧ ∀ a, pa = some a → ∃ g, a = ⟨g, 0, none⟩ := by
 rcases h.2 with ⟨rfl, rfl⟩ | ⟨g, cap, cur, rfl, _⟩
 ·exact ⟨none, 0, rfl, fun _ e => by cases e⟩
 ·exact ⟨_, _, rfl, fun a e => ⟨g, (Option.some.inj e).symm⟩⟩
theorem own_sl {w : World} {N e sz : Nat} {α : Type} {cells : α → List Value} (hl : ∀ x, (cells x).length = sz) {pa : Option Addr} {cap : Nat} {L : List α} (hz : L.length ≤ maxLen) (h : w.ownsRow N e sz (.slice pa L.length cap) L.length (L.flatMap cells)) : SL w sz cells pa L := by
 rcases h.2 with ⟨e, h0⟩ | ⟨g, c2, cur, e, hg, hb, hnc, hcm, hcs, htk⟩
 ·refine ⟨hz, fun i o hi => ?_⟩
  have := lt_of_get hi
  omega
 ·cases e
  refine SL.of_range hl hz (Array.getElem?_eq_some_iff.1 hb).1 (fun j v hv => ?_)
  rw [← htk, List.getElem?_take] at hv
  split at hv
  ·rw [Nat.zero_add]
   simp only [World.cell?, hb]
   simpa using hv
  ·cases hv
theorem own_lt {w : World} {N e sz : Nat} {v : Value} {n : Nat} {xs : List Value} (h : w.ownsRow N e sz v n xs) {k : Nat} (hk : v.ownBlock = some k) : k < w.heap.size ∧ N ≤ k := by
 rcases h.2 with ⟨rfl, rfl⟩ | ⟨g, cap, cur, rfl, hg, hb, _⟩
 ·cases hk
 ·cases hk; exact ⟨(Array.getElem?_eq_some_iff.1 hb).1, hg⟩

theorem mk_setCells (k : Nat) : ∀ (l : List Value) (o : Nat) (w : World), Mk (fun j => j = k) w (w.setCells k o l)
 | [], _, w => Mk.refl _ w
 | v :: r, o, w => by
  rw [World.setCells]
  refine Mk.same ?_ (mk_setCells k r (o + 1) _)
  refine ⟨rfl, rfl, rfl, by simp [World.setCell], fun j _ hj => ?_, fun a => World.frozen?_setCell _ _ _ _⟩
  simp [World.setCell, Array.getElem?_modify, Ne.symm hj]
section
variable {P : Program} {o : Oper} {n : Nat} {l : List (Nat × Value)} {w : World} {ops : Array Oper} {rest : List Oper} {Q : Exit → Act → World → Prop}
theorem wl_stm (ty : TypeId) (x y : Operand) (k off : Nat) (us : Array Value) (vs vs' : List Value) (hA : At w k vs) (ho : o.op = .store ty x y) (hd : o.dst = none) (hx : evl n l x = pt k off) (hy : evl n l y = .agg us)
  (hl : Nat.ble (off + us.size) vs.length = true) (hi : (P.info? ty).map (·.size) = some us.size) (h1 : us.toList.all (·.oneCell') = true) (hvs : vs' = vs.take off ++ us.toList ++ vs.drop (off + us.toList.length)) (hg : wnt n l ops o = true)
  (hk : ∀ w', St k w w' → Mk (fun j => j = k) w w' → At w' k vs' → WL P ops Q rest n l w') : WL P ops Q (o :: rest) n l w :=
 ⟨l_step hg (o_store ty x y _ _ ho hd hx hy (run_put hA ty off us (Nat.le_of_ble_eq_true hl) hi (by rw [← Array.all_toList]; exact h1)) (hk _ (St.mk' w k off us.toList) (mk_setCells k us.toList off w) (hA.set off us.toList (by have := Nat.le_of_ble_eq_true hl; simpa using this) vs' hvs)).out)⟩
theorem wl_stm1 (ty : TypeId) (x y : Operand) (k off : Nat) (v : Value) (vs vs' : List Value) (hA : At w k vs) (ho : o.op = .store ty x y) (hd : o.dst = none) (hx : evl n l x = pt k off) (hy : evl n l y = v)
  (hl : Nat.blt off vs.length = true) (hi : (P.info? ty).map (·.size) = some 1) (hv : v.cells = #[v]) (h1 : v.oneCell' = true) (hvs : vs' = vs.take off ++ [v] ++ vs.drop (off + 1)) (hg : wnt n l ops o = true)
  (hk : ∀ w', St k w w' → Mk (fun j => j = k) w w' → At w' k vs' → WL P ops Q rest n l w') : WL P ops Q (o :: rest) n l w :=
 have hl' : off < vs.length := by rw [Nat.blt_eq] at hl; exact hl
 ⟨l_step hg (o_store ty x y _ _ ho hd hx hy (run_put1 hA ty off v hl' hi hv h1) (hk _ (St.mk' w k off [v]) (mk_setCells k [v] off w) (hA.set off [v] (by simp; omega) vs' hvs)).out)⟩
end
section
variable {P : Program} {o : Oper} {n : Nat} {l : List (Nat × Value)} {w : World} {Q : Exit → Act → World → Prop} {K : Act → World → Prop}
theorem wl_mf {ops : Array Oper} {rest : List Oper} (fn : Fn) (xs ys : List Operand) (fs cs : List Value) (ho : o.op = .makeFunc fn xs.toArray ys.toArray) (hx : xs.map (evl n l) = fs) (hy : ys.map (evl n l) = cs) (hg : wnt n l ops o = true) (hk : WL P ops Q rest n (ext l o.dst (.func fn fs.toArray cs.toArray)) w) : WL P ops Q (o :: rest) n l w := by
 subst hx hy
 exact wl_val (.func fn (xs.map (evl n l)).toArray (ys.map (evl n l)).toArray) (by simp [execOp, ho, Instr.makeFunc]) hg hk
end
end Go.Proofs.YtnffhcjmpjajlaaDoor

namespace Go.Proofs.YtnffhcjmpjajlaaDoor
open Go.RowKit D
theorem sz9 : (Tryd.prog.info? 9).map (·.size) = some 1 := by kernel_rfl
theorem sz79 : (Tryd.prog.info? 79).map (·.size) = some 23 := by kernel_rfl
end Go.Proofs.YtnffhcjmpjajlaaDoor

namespace Go.Proofs.YtnffhcjmpjajlaaDoor
open Go.RowKit D
theorem r1v {a b : Ro} (h : a = b) : Ending.returned a.v = .returned b.v := by rw [h]
theorem pud_n {L : List S5} {pl : Option Addr} {cl : Nat} {r : Ro} {s n : Int} {y : S5} (w : World) (hL : LL w pl L) (h0 : 0 ≤ s) (hy : L[s.toNat]? = some y) (hd2 : 2 ≤ y.dp) (hd4 : y.dp ≤ 4) : Calls Tryd.prog 49 #[.slice pl L.length cl, r.v, .int .i64 s, .int .i64 n] w fun e9 w' => e9 = .returned (udR y.dp r s n).v ∧ Mo w w' := by
 refine w_enter 18 Tryd.func49 Tryd.ntmps49 rfl rfl ?_
 have M : Mo w w := Mo.refl _
 refine w_seq (w_reg ?_)
 refine wl_box 25 (.tmp 1) _ (((r.cells).toArray)) rfl rfl (fun _ => by kernel_rfl) rfl ?_
 intro k1 u1 hk hz hq Q1
 have N_k1 : w.heap.size ≤ k1 := by have := M.size; omega
 replace M := M.trans hq
 clear hk hz hq
 refine wl_alloc 25 #[.int .i64 0, .int .i64 0, .int .i64 0, .int .i64 0] rfl (fun _ => by kernel_rfl) rfl ?_
 intro k2 u2 hk hz hq Q2
 have ne_k1_k2 : k1 ≠ k2 := by have := Q1.lt; omega
 have N_k2 : w.heap.size ≤ k2 := by have := M.size; omega
 replace Q1 := Q1.mo hq
 replace M := M.trans hq
 clear hk hz hq
 refine w_nil (xn_then (w_seq (w_reg ?_)))
 refine wl_m (.tmp 2) (.int .i64 (s)) ?_
 refine wl_f 25 0 (.tmp 5) (pt k1 0) (pt k1 0) ?_
 refine wl_st1 3 (.tmp 10) (.tmp 9) k1 0 (.int .i64 (s)) (r.cells) [.int .i64 (s), .int .i64 r.a, .int .i64 r.b, .int .i64 r.c] Q1 rfl rfl rfl rfl rfl sz3 rfl rfl rfl rfl ?_
 intro u3 hS Qn
 replace Q1 := Qn
 clear Qn
 replace Q2 := hS.other _ _ ne_k1_k2.symm Q2
 replace M := hS.mo _ N_k1 M
 clear hS
 refine w_nil (xn_then (w_seq (w_reg ?_)))
 refine wl_m (.tmp 0) (.slice pl L.length cl) ?_
 refine wl_m (.tmp 2) (.int .i64 (s)) ?_
 cases hf0 : decide (y.dp = 2) with
 | true =>
  have hf0p := of_decide_eq_true hf0
  refine wl_call 29 [(.tmp 11), (.tmp 12)] _ [.slice pl L.length cl, .int .i64 (s)] (.int .i64 (0)) rfl rfl (fun _ _ => by kernel_rfl) (cR (congrArg (Value.int .i64) (by omega)) (pown_n _ (hL.mo M) h0 hy (by omega) (by omega))) rfl ?_
  intro u4 hq
  replace Q1 := Q1.mo hq
  replace Q2 := Q2.mo hq
  replace M := M.trans hq
  clear hq
  refine wl_m (.tmp 3) (.int .i64 (n)) ?_
  refine wl_f 25 1 (.tmp 5) (pt k1 0) (pt k1 1) ?_
  refine wl_bin (fun x y => Instr.indexAt 23 x y) (.tmp 15) (.tmp 13) (pt k1 1) (.int .i64 (0)) (pt k1 1) (fun _ => rfl) rfl rfl (by kernel_rfl) rfl ?_
  refine wl_st1 2 (.tmp 16) (.tmp 14) k1 1 (.int .i64 (n)) _ [.int .i64 (s), .int .i64 (n), .int .i64 r.b, .int .i64 r.c] Q1 rfl rfl rfl rfl rfl sz2 rfl rfl rfl rfl ?_
  intro u5 hS Qn
  replace Q1 := Qn
  clear Qn
  replace Q2 := hS.other _ _ ne_k1_k2.symm Q2
  replace M := hS.mo _ N_k1 M
  clear hS
  refine w_nil (xn_then (w_seq (w_reg ?_)))
  refine wl_l 25 (.tmp 5) (pt k1 0) (.agg #[.int .i64 (s), .int .i64 (n), .int .i64 r.b, .int .i64 r.c]) (run_row Q1 25 0 4 _ rfl Tryd.underlying25 rfl sz25) ?_
  refine wl_st 25 (.tmp 8) (.tmp 17) k2 0 #[.int .i64 (s), .int .i64 (n), .int .i64 r.b, .int .i64 r.c] _ [.int .i64 (s), .int .i64 (n), .int .i64 r.b, .int .i64 r.c] Q2 rfl rfl rfl rfl rfl sz25 rfl rfl rfl ?_
  intro u6 hS Qn
  replace Q2 := Qn
  clear Qn
  replace Q1 := hS.other _ _ ne_k1_k2 Q1
  replace M := hS.mo _ N_k2 M
  clear hS
  refine w_nil (xn_then (w_ret ?_))
  exact w_ret1 _ (.agg #[.int .i64 (s), .int .i64 (n), .int .i64 r.b, .int .i64 r.c]) rfl ⟨k2, rfl, (run_row Q2 25 0 4 _ rfl Tryd.underlying25 rfl sz25)⟩ ⟨r1v (a := (⟨s, n, r.b, r.c⟩ : Ro)) (by simp [udR, setR, hf0p]), M⟩
 | false =>
  have hf0p := of_decide_eq_false hf0
  cases hf1 : decide (y.dp = 3) with
  | true =>
   have hf1p := of_decide_eq_true hf1
   refine wl_call 29 [(.tmp 11), (.tmp 12)] _ [.slice pl L.length cl, .int .i64 (s)] (.int .i64 (1)) rfl rfl (fun _ _ => by kernel_rfl) (cR (congrArg (Value.int .i64) (by omega)) (pown_n _ (hL.mo M) h0 hy (by omega) (by omega))) rfl ?_
   intro u4 hq
   replace Q1 := Q1.mo hq
   replace Q2 := Q2.mo hq
   replace M := M.trans hq
   clear hq
   refine wl_m (.tmp 3) (.int .i64 (n)) ?_
   refine wl_f 25 1 (.tmp 5) (pt k1 0) (pt k1 1) ?_
   refine wl_bin (fun x y => Instr.indexAt 23 x y) (.tmp 15) (.tmp 13) (pt k1 1) (.int .i64 (1)) (pt k1 2) (fun _ => rfl) rfl rfl (by kernel_rfl) rfl ?_
   refine wl_st1 2 (.tmp 16) (.tmp 14) k1 2 (.int .i64 (n)) _ [.int .i64 (s), .int .i64 r.a, .int .i64 (n), .int .i64 r.c] Q1 rfl rfl rfl rfl rfl sz2 rfl rfl rfl rfl ?_
   intro u5 hS Qn
   replace Q1 := Qn
   clear Qn
   replace Q2 := hS.other _ _ ne_k1_k2.symm Q2
   replace M := hS.mo _ N_k1 M
   clear hS
   refine w_nil (xn_then (w_seq (w_reg ?_)))
   refine wl_l 25 (.tmp 5) (pt k1 0) (.agg #[.int .i64 (s), .int .i64 r.a, .int .i64 (n), .int .i64 r.c]) (run_row Q1 25 0 4 _ rfl Tryd.underlying25 rfl sz25) ?_
   refine wl_st 25 (.tmp 8) (.tmp 17) k2 0 #[.int .i64 (s), .int .i64 r.a, .int .i64 (n), .int .i64 r.c] _ [.int .i64 (s), .int .i64 r.a, .int .i64 (n), .int .i64 r.c] Q2 rfl rfl rfl rfl rfl sz25 rfl rfl rfl ?_
   intro u6 hS Qn
   replace Q2 := Qn
   clear Qn
   replace Q1 := hS.other _ _ ne_k1_k2 Q1
   replace M := hS.mo _ N_k2 M
   clear hS
   refine w_nil (xn_then (w_ret ?_))
   exact w_ret1 _ (.agg #[.int .i64 (s), .int .i64 r.a, .int .i64 (n), .int .i64 r.c]) rfl ⟨k2, rfl, (run_row Q2 25 0 4 _ rfl Tryd.underlying25 rfl sz25)⟩ ⟨r1v (a := (⟨s, r.a, n, r.c⟩ : Ro)) (by simp [udR, setR, hf1p]), M⟩
  | false =>
   have hf1p := of_decide_eq_false hf1
   refine wl_call 29 [(.tmp 11), (.tmp 12)] _ [.slice pl L.length cl, .int .i64 (s)] (.int .i64 (2)) rfl rfl (fun _ _ => by kernel_rfl) (cR (congrArg (Value.int .i64) (by omega)) (pown_n _ (hL.mo M) h0 hy (by omega) (by omega))) rfl ?_
   intro u4 hq
   replace Q1 := Q1.mo hq
   replace Q2 := Q2.mo hq
   replace M := M.trans hq
   clear hq
   refine wl_m (.tmp 3) (.int .i64 (n)) ?_
   refine wl_f 25 1 (.tmp 5) (pt k1 0) (pt k1 1) ?_
   refine wl_bin (fun x y => Instr.indexAt 23 x y) (.tmp 15) (.tmp 13) (pt k1 1) (.int .i64 (2)) (pt k1 3) (fun _ => rfl) rfl rfl (by kernel_rfl) rfl ?_
   refine wl_st1 2 (.tmp 16) (.tmp 14) k1 3 (.int .i64 (n)) _ [.int .i64 (s), .int .i64 r.a, .int .i64 r.b, .int .i64 (n)] Q1 rfl rfl rfl rfl rfl sz2 rfl rfl rfl rfl ?_
   intro u5 hS Qn
   replace Q1 := Qn
   clear Qn
   replace Q2 := hS.other _ _ ne_k1_k2.symm Q2
   replace M := hS.mo _ N_k1 M
   clear hS
   refine w_nil (xn_then (w_seq (w_reg ?_)))
   refine wl_l 25 (.tmp 5) (pt k1 0) (.agg #[.int .i64 (s), .int .i64 r.a, .int .i64 r.b, .int .i64 (n)]) (run_row Q1 25 0 4 _ rfl Tryd.underlying25 rfl sz25) ?_
   refine wl_st 25 (.tmp 8) (.tmp 17) k2 0 #[.int .i64 (s), .int .i64 r.a, .int .i64 r.b, .int .i64 (n)] _ [.int .i64 (s), .int .i64 r.a, .int .i64 r.b, .int .i64 (n)] Q2 rfl rfl rfl rfl rfl sz25 rfl rfl rfl ?_
   intro u6 hS Qn
   replace Q2 := Qn
   clear Qn
   replace Q1 := hS.other _ _ ne_k1_k2 Q1
   replace M := hS.mo _ N_k2 M
   clear hS
   refine w_nil (xn_then (w_ret ?_))
   exact w_ret1 _ (.agg #[.int .i64 (s), .int .i64 r.a, .int .i64 r.b, .int .i64 (n)]) rfl ⟨k2, rfl, (run_row Q2 25 0 4 _ rfl Tryd.underlying25 rfl sz25)⟩ ⟨r1v (a := (⟨s, r.a, r.b, n⟩ : Ro)) (by simp [udR, setR, hf0p, hf1p]), M⟩
end Go.Proofs.YtnffhcjmpjajlaaDoor
namespace Go.Proofs.YtnffhcjmpjajlaaDoor
open Go.RowKit D
theorem slb_hi (ρ : Operand → Value) (x y : Operand) (s : ByteArray) (n : Nat) (hx : ρ x = .string s) (hy : ρ y = .int .i64 (n : Int)) (hn : n ≤ s.size) (dst : Option Tmp) (type : TypeId) (pos : String) (after : Array Edge) (guard : Option (Nat × Bool)) (w : World) : (execOp ρ { dst, op := .slice 9 x none (some y) none, type, pos, after, guard }).run Tryd.prog w = .ok (.value (.string (s.extract 0 n))) w := by
 simp [go_sem, hx, hy, hn]
theorem slb_lo (ρ : Operand → Value) (x y : Operand) (s : ByteArray) (n : Nat) (hx : ρ x = .string s) (hy : ρ y = .int .i64 (n : Int)) (hn : n ≤ s.size) (dst : Option Tmp) (type : TypeId) (pos : String) (after : Array Edge) (guard : Option (Nat × Bool)) (w : World) : (execOp ρ { dst, op := .slice 9 x (some y) none none, type, pos, after, guard }).run Tryd.prog w = .ok (.value (.string (s.extract n s.size))) w := by
 simp [go_sem, hx, hy, hn]
def bgS (s h : ByteArray) : ByteArray := (bgn s h).getD ⟨#[]⟩
theorem bg_ret {s h a : ByteArray} {f : Bool} (e : bgn s h = if f then some a else none) (ha : f = false → a = ⟨#[]⟩) : Ending.returned (.tuple #[.string a, .bool f]) = .returned (.tuple #[.string (bgS s h), .bool (bgB s h)]) := by
 unfold bgS bgB
 cases f with
 | true => rw [e]; rfl
 | false => rw [e, ha rfl]; rfl
theorem begins_n {s h : ByteArray} (w : World) : Calls Tryd.prog 55 #[.string s, .string h] w fun e9 w' => e9 = .returned (.tuple #[.string (bgS s h), .bool (bgB s h)]) ∧ Mo w w' := by
 refine w_enter 23 Tryd.func55 Tryd.ntmps55 rfl rfl ?_
 have M : Mo w w := Mo.refl _
 refine w_seq (w_reg ?_)
 refine wl_m (.const (.string ⟨#[]⟩)) (.string ⟨#[]⟩) ?_
 refine wl_m (.const (.bool false)) (.bool false) ?_
 refine w_nil (xn_then (w_seq (w_seq (w_reg ?_))))
 refine wl_m (.tmp 0) (.string s) ?_
 refine wl_val (.int .i64 ((s.size : Nat) : Int)) (len_s _ _ _ (by exact rfl) _ _ _ _ _ _) rfl ?_
 refine wl_m (.tmp 1) (.string h) ?_
 refine wl_val (.int .i64 ((h.size : Nat) : Int)) (len_s _ _ _ (by exact rfl) _ _ _ _ _ _) rfl ?_
 cases hf0 : decide (s.size < h.size) with
 | true =>
  have hf0p := of_decide_eq_true hf0
  refine wl_b .lss 3 (.tmp 7) (.tmp 9) (.int .i64 ((s.size : Nat) : Int)) (.int .i64 ((h.size : Nat) : Int)) (.bool true) (ltN hf0 _ _ _) ?_
  refine wl_m (.tmp 10) (.bool true) ?_
  refine wl_skip rfl (wl_skip rfl (wl_skip rfl (wl_skip rfl (wl_skip rfl (wl_skip rfl ?_)))))
  refine wl_pick (.tmp 11) (.const (.bool true)) (.tmp 17) true (.bool true) (fun _ => rfl) rfl rfl rfl ?_
  refine w_nil (xn_then (w_condT rfl (w_seq (w_reg ?_))))
  refine wl_m (.const (.string ⟨#[]⟩)) (.string ⟨#[]⟩) ?_
  refine wl_m (.const (.bool false)) (.bool false) ?_
  refine w_nil (xn_then (w_ret (xr_then ?_)))
  exact w_ret2 _ _ (.string ⟨#[]⟩) (.bool false) rfl rfl rfl ⟨bg_ret (a := ⟨#[]⟩) (f := false) (by unfold bgn; rw [if_pos hf0p]; rfl) (fun _ => rfl), M⟩
 | false =>
  have hf0p := of_decide_eq_false hf0
  refine wl_b .lss 3 (.tmp 7) (.tmp 9) (.int .i64 ((s.size : Nat) : Int)) (.int .i64 ((h.size : Nat) : Int)) (.bool false) (ltN hf0 _ _ _) ?_
  refine wl_m (.tmp 10) (.bool false) ?_
  refine wl_m (.tmp 0) (.string s) ?_
  refine wl_m (.tmp 1) (.string h) ?_
  refine wl_val (.int .i64 ((h.size : Nat) : Int)) (len_s _ _ _ (by exact rfl) _ _ _ _ _ _) rfl ?_
  refine wl_val (.string (s.extract 0 h.size)) (slb_hi _ _ _ s h.size (by exact rfl) (by exact rfl) (by omega) _ _ _ _ _ _) rfl ?_
  refine wl_m (.tmp 1) (.string h) ?_
  cases hf1 : decide (s.extract 0 h.size = h) with
  | true =>
   have hf1p := of_decide_eq_true hf1
   refine wl_b .neq 9 (.tmp 15) (.tmp 16) (.string (s.extract 0 h.size)) (.string h) (.bool false) (sn9 hf1 _ _ _) ?_
   refine wl_pick (.tmp 11) (.const (.bool true)) (.tmp 17) false (.bool false) (fun _ => rfl) rfl rfl rfl ?_
   refine w_nil (xn_then (w_condF rfl (w_skip (xn_then (w_seq (w_reg ?_))))))
   refine wl_m (.tmp 0) (.string s) ?_
   refine wl_m (.tmp 1) (.string h) ?_
   refine wl_val (.int .i64 ((h.size : Nat) : Int)) (len_s _ _ _ (by exact rfl) _ _ _ _ _ _) rfl ?_
   refine wl_val (.string (s.extract h.size s.size)) (slb_lo _ _ _ s h.size (by exact rfl) (by exact rfl) (by omega) _ _ _ _ _ _) rfl ?_
   refine wl_m (.tmp 22) (.string (s.extract h.size s.size)) ?_
   refine wl_m (.const (.bool true)) (.bool true) ?_
   refine w_nil (xn_then (w_ret ?_))
   exact w_ret2 _ _ (.string (s.extract h.size s.size)) (.bool true) rfl rfl rfl ⟨bg_ret (a := s.extract h.size s.size) (f := true) (by unfold bgn; rw [if_neg hf0p, if_pos hf1p]; rfl) (fun e => by cases e), M⟩
  | false =>
   have hf1p := of_decide_eq_false hf1
   refine wl_b .neq 9 (.tmp 15) (.tmp 16) (.string (s.extract 0 h.size)) (.string h) (.bool true) (sn9 hf1 _ _ _) ?_
   refine wl_pick (.tmp 11) (.const (.bool true)) (.tmp 17) false (.bool true) (fun _ => rfl) rfl rfl rfl ?_
   refine w_nil (xn_then (w_condT rfl (w_seq (w_reg ?_))))
   refine wl_m (.const (.string ⟨#[]⟩)) (.string ⟨#[]⟩) ?_
   refine wl_m (.const (.bool false)) (.bool false) ?_
   refine w_nil (xn_then (w_ret (xr_then ?_)))
   exact w_ret2 _ _ (.string ⟨#[]⟩) (.bool false) rfl rfl rfl ⟨bg_ret (a := ⟨#[]⟩) (f := false) (by unfold bgn; rw [if_neg hf0p, if_neg hf1p]; rfl) (fun _ => rfl), M⟩
end Go.Proofs.YtnffhcjmpjajlaaDoor

namespace Go.Proofs.YtnffhcjmpjajlaaDoor
open Go.RowKit D
theorem appO {st et sz bys : Nat} {zv : Value} (hst : Tryd.prog.underlying st = some (.slice et)) (hin : ∃ i, Tryd.prog.info? et = some i ∧ i.zero = some zv ∧ i.size = sz ∧ i.bytes = bys) (hzs : zv.cells.size = sz) (hsz : 0 < sz)
  (w : World) (ty : TypeId) (N : Nat) (v : Value) (n : Nat) (xs : List Value) (hown : w.ownsRow N et sz v n xs) (a0 : Addr) (m c : Nat) (news : List Value) (hl : news.length = m * sz) (hnews : ∀ j u, news[j]? = some u → w.cell? (a0.add j) = some u) (h1 : ∀ u ∈ news, u.oneCell' = true) (hm : 0 < m) (h63 : n + m ≤ maxLen) (hb : (n + m) * bys ≤ 140737488355328) (hN : N ≤ w.heap.size) :
  ∃ v' w', (Builtin.append_ #[st, st] ty #[v, .slice (some a0) m c]).run Tryd.prog w = .ok v' w' ∧ w'.ownsRow N et sz v' (n + m) (xs ++ news) ∧ Mk (fun j => v.ownBlock = some j) w w' ∧ (v'.ownBlock = v.ownBlock ∨ v'.ownBlock = some w.heap.size) := by
 obtain ⟨i, hi, hz, hs, hby⟩ := hin
 have hm63 : (m : Int) ≤ 9223372036854775807 := by unfold maxLen at h63; omega
 have hbm : m * bys ≤ 140737488355328 := Nat.le_trans (Nat.mul_le_mul_right _ (by omega)) hb
 obtain ⟨v', w', hr, h2, h3, _, h5⟩ := run_append_own_at (P := Tryd.prog) w N st ty et i _ sz bys hst hi hz hs hby hzs hsz v n xs hown a0 m c news hl hnews h1 h63 hb hN
 refine ⟨v', w', hr, h2, ⟨h3.os, h3.tape, h3.output, h3.size, fun j hj hne => h3.block j hj (fun e => hne e.symm), ?_⟩, h5⟩
 rcases hown.2 with ⟨rfl, rfl⟩ | ⟨g, cap, cur, rfl, hbg, hg, hnc, hcm, hcs, htake⟩
 ·have hr2 := run_append_nil (P := Tryd.prog) w st ty et i _ hst hi hz a0 m c news (by rw [hs]; exact hl) hnews hm hm63 (by rw [hby]; omega)
  rw [hr2] at hr
  cases hr
  exact ((Mo.refl w).drew.alloc _ _).2
 ·by_cases hroom : n + m ≤ cap
  ·have hr2 := run_append_room (P := Tryd.prog) w st ty et i hst hi g n cap cur hg a0 m c news (by rw [hs]; exact hl) hnews h1 hroom (by rw [hs, hcs]; exact Nat.mul_le_mul_right _ hroom |> fun h => by first | omega | exact h | (rw [hl]; rw [Nat.add_mul] at h; omega))
   rw [hr2] at hr
   cases hr
   intro a
   by_cases e : a.block = g
   ·have h9 := setRow_heap w g cur (cur.toList.take (n * i.size) ++ news ++ cur.toList.drop (n * i.size + news.length)).toArray et (0, 0) hg
    simp only [World.frozen?, e, h9, hg]
   ·exact World.frozen?_of_block (setRow_other w g a.block _ e)
  ·have hr2 := run_append_grow (P := Tryd.prog) w st ty et i _ hst hi hz ⟨g, 0, none⟩ n cap xs (by rw [hs]; exact hown.1) (hown.cells (g := g) rfl) a0 m c news (by rw [hs]; exact hl) hnews (by omega) (by unfold maxLen at h63; omega) (by rw [hby]; exact growslice_fits (by omega) hb)
   rw [hr2] at hr
   cases hr
   exact ((Mo.refl w).drew.alloc _ _).2
def ic (i : Int) : List Value := [.int .i64 i]
abbrev SI (w : World) (pa : Option Addr) (l : List Int) : Prop := SL w 1 ic pa l
theorem inf3 : ∃ i, Tryd.prog.info? 3 = some i ∧ i.zero = some (.int .i64 0) ∧ i.size = 1 ∧ i.bytes = 8 := by
 have h : (Tryd.prog.info? 3).map (fun i => (i.zero, i.size, i.bytes)) = some (some (.int .i64 0), 1, 8) := by kernel_rfl
 cases hi : Tryd.prog.info? 3 with
 | none => rw [hi] at h; cases h
 | some i =>
  rw [hi] at h
  simp at h
  exact ⟨i, rfl, h.1, h.2.1, h.2.2⟩
theorem app0 {p : Option Addr} {n cv : Nat} {q : Option Addr} {c : Nat} (h : n ≤ cv) (ty : TypeId) (w : World) : (Builtin.append_ #[105, 105] ty #[.slice p n cv, .slice q 0 c]).run Tryd.prog w = .ok (.slice p n cv) w := by
 cases p <;> cases q <;> simp [Builtin.append_, run_underlying Tryd.underlying105, Builtin.lenOf, Builtin.firstCells, storeCells, h, go_sem]
theorem own_one (w : World) (z : Int) : (w.alloc (.cells #[.int .i64 z] 3)).ownsRow w.heap.size 3 1 (.slice (some ⟨w.heap.size, 0, none⟩) 1 1) 1 [.int .i64 z] :=
 ⟨rfl, Or.inr ⟨w.heap.size, 1, #[.int .i64 z], rfl, Nat.le_refl _, by show (w.heap.push _)[w.heap.size]? = _; simp, Nat.le_refl _, by unfold maxLen; omega, rfl, rfl⟩⟩
theorem flat_ic (l : List Int) : l.flatMap ic = l.map (Value.int .i64) := by
 induction l with
 | nil => rfl
 | cons a l ih => rw [List.flatMap_cons, ih]; rfl
theorem si_mk {D : Nat → Prop} {w w' : World} {pa : Option Addr} {l : List Int} (h : SI w pa l) (m : Mk D w w') (hD : ∀ a, pa = some a → ¬ D a.block) : SI w' pa l :=
 ⟨h.1, fun i o hi => by
  obtain ⟨b, off, e, hb, hR⟩ := h.2 i o hi
  exact ⟨b, off, e, Nat.lt_of_lt_of_le hb m.size, fun j v hv => (World.cell?_of_block (a := ⟨b, _, none⟩) (m.block b hb (hD _ e))).trans (hR j v hv)⟩⟩
theorem apS {w : World} {z : Int} {pa : Option Addr} {ca : Nat} {acc : List Int} (hS : SI w pa acc) (hz : acc.length ≤ 1000) (ty : TypeId) : ∃ pa' ca' w', (Builtin.append_ #[105, 105] ty #[.slice (some ⟨w.heap.size, 0, none⟩) 1 1, .slice pa acc.length ca]).run Tryd.prog (w.alloc (.cells #[.int .i64 z] 3)) = .ok (.slice pa' (acc.length + 1) ca') w' ∧ SI w' pa' (z :: acc) ∧ Mo w w' ∧ ∀ a, pa' = some a → w.heap.size ≤ a.block := by
 have hm0 : Mo w (w.alloc (.cells #[.int .i64 z] 3)) := (Mo.refl _).alloc _ _
 have ho := own_one w z
 cases acc with
 | nil => exact ⟨_, _, _, app0 (Nat.le_refl 1) ty _, own_sl (cells := ic) (L := [z]) (fun _ => rfl) (by unfold maxLen; show 1 ≤ _; omega) ho, hm0, fun a e => by cases e; exact Nat.le_refl _⟩
 | cons a r =>
  obtain ⟨b, off, rfl, hb, _⟩ := hS.2 0 a rfl
  have hS' := hS.kp hm0.kp
  have hnews : ∀ j u, ((a :: r).map (Value.int .i64))[j]? = some u → (w.alloc (.cells #[.int .i64 z] 3)).cell? ((⟨b, off, none⟩ : Addr).add j) = some u := fun j u hu => by
   rw [List.getElem?_map] at hu
   obtain ⟨y, hy, rfl⟩ := Option.map_eq_some_iff.1 hu
   obtain ⟨b', off', e, _, hR⟩ := hS'.2 j y hy
   cases e
   have := hR 0 (.int .i64 y) rfl
   rw [Addr.add_mid]
   simpa using this
  obtain ⟨v', w', hr, h2, h3, h4⟩ := appO Tryd.underlying105 inf3 rfl (by decide) (w.alloc (.cells #[.int .i64 z] 3)) ty w.heap.size _ 1 _ ho ⟨b, off, none⟩ (a :: r).length ca ((a :: r).map (Value.int .i64)) (by simp) hnews (fun u hu => by obtain ⟨y, _, rfl⟩ := List.mem_map.1 hu; rfl) (by simp) (by unfold maxLen; omega) (by omega) (by simp)
  obtain ⟨pa', ca', rfl, _⟩ := own_form h2
  have h2' : w'.ownsRow w.heap.size 3 1 (.slice pa' (z :: a :: r).length ca') (z :: a :: r).length ((z :: a :: r).flatMap ic) := by
   rw [flat_ic]
   rw [show (z :: a :: r).length = 1 + (a :: r).length by simp; omega]
   exact h2
  refine ⟨pa', ca', w', ?_, own_sl (cells := ic) (fun _ => rfl) (by unfold maxLen; simp at hz ⊢; omega) h2', h3.mo hm0 (fun k e => by cases e; exact Nat.le_refl _), fun a e => by subst e; exact (own_lt h2' (k := a.block) rfl).2⟩
  rw [hr, Nat.add_comm]
section
variable {o : Oper} {n : Nat} {l : List (Nat × Value)} {w : World} {ops : Array Oper} {rest : List Oper} {Q : Exit → Act → World → Prop}
theorem wl_bsX (ty : TypeId) (m : Nat) (xs : List (Nat × Operand)) (ps : List (Nat × Value)) (cs : Array Value) (e : TypeId) (ho : o.op = .buildSlice ty m xs.toArray) (hx : xs.map (fun p => (p.1, evl n l p.2)) = ps)
  (h : ∀ w, (Instr.buildSlice ty m ps.toArray).run Tryd.prog w = .ok (.slice (some ⟨w.heap.size, 0, none⟩) m m) (w.alloc (.cells cs e))) (hg : wnt n l ops o = true)
  (hk : WL Tryd.prog ops Q rest n (ext l o.dst (.slice (some ⟨w.heap.size, 0, none⟩) m m)) (w.alloc (.cells cs e))) : WL Tryd.prog ops Q (o :: rest) n l w := by
 subst hx
 refine ⟨l_step hg (o_val (.slice (some ⟨w.heap.size, 0, none⟩) m m) (w' := w.alloc (.cells cs e)) ?_ hk.out)⟩
 simp [execOp, ho, h]
theorem wl_apS (s x : Operand) {z : Int} {pa : Option Addr} {ca : Nat} {acc : List Int} (ho : o.op = .call { callee := .builtin .append, args := #[s, x], argTypes := #[105, 105] }) (hs : evl n l s = .slice (some ⟨w.heap.size, 0, none⟩) 1 1) (hx : evl n l x = .slice pa acc.length ca) (hS : SI w pa acc) (hz : acc.length ≤ 1000) (hg : wnt n l ops o = true)
  (hk : ∀ pa' ca' w', SI w' pa' (z :: acc) → Mo w w' → (∀ a, pa' = some a → w.heap.size ≤ a.block) → WL Tryd.prog ops Q rest n (ext l o.dst (.slice pa' (z :: acc).length ca')) w') : WL Tryd.prog ops Q (o :: rest) n l (w.alloc (.cells #[.int .i64 z] 3)) := by
 obtain ⟨pa', ca', w', hr, h2, h3, h4⟩ := apS (z := z) (ca := ca) hS hz o.type
 refine ⟨l_step hg (o_val (.slice pa' (acc.length + 1) ca') (w' := w') ?_ (hk pa' ca' w' h2 h3 h4).out)⟩
 unfold execOp
 simp only [ho, resolve, invoke, builtin, Sem.run_bind, Sem.run_pure, Result.andThen_ok, List.map_toArray, List.map_cons, List.map_nil, hs, hx, hr]
end
theorem chain_n {L : List S5} {pl : Option Addr} {cl : Nat} {z : Int} (w : World) (hL : LL w pl L) (hsn : snd L = true) (h0 : 0 ≤ z) (h1 : z < (L.length : Int)) : Calls Tryd.prog 54 #[.slice pl L.length cl, .int .i64 z] w fun e9 w' => ∃ pa ca, e9 = .returned (.slice pa (chn L z).length ca) ∧ SI w' pa (chn L z) ∧ (∀ a, pa = some a → w.heap.size ≤ a.block) ∧ Mo w w' := by
 have hd0 : (([] : List Int).length : Int) + dpA L z.toNat ≤ 4 := by
  obtain ⟨y, hy⟩ := get_of_lt (show z.toNat < L.length by omega)
  have := dp_at hsn hy
  rw [dpA_at hy]; simp; omega
 refine w_enter 18 Tryd.func54 Tryd.ntmps54 rfl rfl ?_
 have M : Mo w w := Mo.refl _
 refine w_seq (w_reg ?_)
 refine wl_m (.const (.slice none 0 0)) (.slice none 0 0) ?_
 refine w_nil (xn_then (w_seq (w_reg ?_)))
 refine wl_m (.const (.slice none 0 0)) (.slice none 0 0) ?_
 refine w_nil (xn_then (w_seq (w_block ?_)))
 refine w_loop (fun m l9 w1 => ∃ (z1 : Int) (acc : List Int) (pa5 : Option Addr) (ca5 : Nat), m = z1.toNat ∧ look l9 0 = .slice pl L.length cl ∧ look l9 1 = .int .i64 z1 ∧ look l9 5 = .slice pa5 acc.length ca5 ∧ SI w1 pa5 acc ∧ 0 ≤ z1 ∧ z1 < (L.length : Int) ∧ chN L z1.toNat z1 acc = chn L z ∧ (acc.length : Int) + dpA L z1.toNat ≤ 4 ∧ (∀ a, pa5 = some a → w.heap.size ≤ a.block) ∧ Mo w w1) _ ⟨z, [], none, 0, rfl, rfl, rfl, rfl, ⟨Nat.zero_le _, fun _ _ e => by cases e⟩, h0, h1, rfl, hd0, (fun _ e => by cases e), M⟩ ?_
 clear M
 rintro m l9 wl ⟨z1, acc, pa5, ca5, rfl, e0, e1, e5, hS, hz0, hz1, hch, hln, hB5, M⟩
 obtain ⟨y, hy⟩ := get_of_lt (show z1.toNat < L.length by omega)
 have hdy := dp_at hsn hy
 rw [dpA_at hy] at hln
 refine w_seq (w_seq (w_reg ?_))
 refine wl_mv (.tmp 1) (.int .i64 (z1)) (fun _ => rfl) e1 rfl ?_
 cases hf30 : decide (z1 = 0) with
 | true =>
  have hf30p := of_decide_eq_true hf30
  refine wl_b .neq 3 (.tmp 6) (.const (.int .i64 (0))) (.int .i64 (z1)) (.int .i64 (0)) (.bool false) (ne3 hf30 _ _ _) ?_
  refine w_nil (xn_then (w_condF rfl (w_exit (xx_then (xx_then (xx_blk (xn_then (w_seq (w_reg ?_)))))))))
  refine wl_mv (.tmp 5) (.slice pa5 acc.length ca5) (fun _ => rfl) e5 rfl ?_
  refine wl_m (.tmp 17) (.slice pa5 acc.length ca5) ?_
  refine w_nil (xn_then (w_ret ?_))
  exact w_ret1 _ (.slice pa5 acc.length ca5) rfl rfl ⟨pa5, ca5, by have h9 := hch; rw [hf30p] at h9; have h8 : acc = chn L z := h9; rw [← h8], by have h9 := hch; rw [hf30p] at h9; have h8 : acc = chn L z := h9; rw [← h8]; exact hS, hB5, M⟩
 | false =>
  have hf30p := of_decide_eq_false hf30
  refine wl_b .neq 3 (.tmp 6) (.const (.int .i64 (0))) (.int .i64 (z1)) (.int .i64 (0)) (.bool true) (ne3 hf30 _ _ _) ?_
  refine w_nil (xn_then (w_condT rfl (w_skip (xn_then (w_block (w_seq (w_reg ?_)))))))
  refine wl_mv (.tmp 1) (.int .i64 (z1)) (fun _ => rfl) e1 rfl ?_
  refine wl_bsX 105 1 [(0, (.tmp 8))] [(0, .int .i64 (z1))] #[.int .i64 (z1)] 3 rfl rfl (fun _ => by kernel_rfl) rfl ?_
  refine wl_mv (.tmp 5) (.slice pa5 acc.length ca5) (fun _ => rfl) e5 rfl ?_
  refine wl_apS (.tmp 9) (.tmp 10) (z := z1) (acc := acc) rfl rfl rfl hS (by omega) rfl ?_
  intro pa6 ca6 u41 hS6 hq hB6
  have hMs := M.size
  replace M := M.trans hq
  refine wl_m (.tmp 11) (.slice pa6 (z1 :: acc).length ca6) ?_
  refine w_nil (xn_then ?_)
  have hly := lt_of_get hy
  obtain ⟨bp, op, hpp, hRp⟩ := D.SL.rw hL.sl hy
  refine w_reg ?_
  refine wl_mv (.tmp 0) (.slice pl L.length cl) (fun _ => rfl) e0 rfl ?_
  refine wl_mv (.tmp 1) (.int .i64 (z1)) (fun _ => rfl) e1 rfl ?_
  refine wl_bin (fun x y => Instr.indexAt 22 x y) (.tmp 12) (.tmp 13) (.slice pl L.length cl) (.int .i64 (z1)) (pt bp (op + z1.toNat * 5)) (fun _ => rfl) rfl rfl (ix22I hz0 hpp hly _) rfl ?_
  refine wl_f 65 0 (.tmp 14) (pt bp (op + z1.toNat * 5)) (pt bp (op + z1.toNat * 5)) ?_
  refine wl_l 3 (.tmp 15) (pt bp (op + z1.toNat * 5)) (.int .i64 (y.pr)) (D.run_oneR (hRp.mo M).at' 3 0 rfl Tryd.underlying3 rfl) ?_
  refine wl_m (.tmp 16) (.int .i64 (y.pr)) ?_
  refine w_nil (xn_blk ?_)
  obtain ⟨hu1, hu2, hu3⟩ := ch_up (acc := acc) hsn hz0 hy hf30p
  obtain ⟨p, hp, _, _, hdp, _, _⟩ := pr_at hsn hy (show z1.toNat ≠ 0 by omega)
  exact xn_loop y.pr.toNat (by omega) ⟨y.pr, z1 :: acc, pa6, ca6, rfl, e0, rfl, rfl, hS6, hu2, by omega, hu1 ▸ hch, (by rw [dpA_at hp, List.length_cons]; omega), (fun a e => Nat.le_trans hMs (hB6 a e)), M⟩
end Go.Proofs.YtnffhcjmpjajlaaDoor

namespace Go.Proofs.YtnffhcjmpjajlaaDoor
open Go.RowKit D
theorem bt_bd (s : ByteArray) (k : Nat) : 0 ≤ bt s k ∧ bt s k ≤ 255 := by
 unfold bt
 split
 ·have := s[k].toNat_lt; omega
 ·omega
theorem idx_b {s : ByteArray} {k : Nat} (h : k < s.size) (w : World) : (Instr.index 9 (.string s) (.int .i64 (k : Int))).run Tryd.prog w = .ok (.int .u8 (bt s k)) w := by
 rw [bt_in h]
 simp [go_sem, h]
theorem ge5 {a b : Int} {r : Bool} (h : decide (b ≤ a) = r) (x y : Operand) (w : World) : (do eqGuard .geq 5 x y (.int .u8 a) (.int .u8 b); binOp .geq 5 (.int .u8 a) (.int .u8 b)).run Tryd.prog w = .ok (.bool r) w := by subst h; simp [go_sem]
theorem le5 {a b : Int} {r : Bool} (h : decide (a ≤ b) = r) (x y : Operand) (w : World) : (do eqGuard .leq 5 x y (.int .u8 a) (.int .u8 b); binOp .leq 5 (.int .u8 a) (.int .u8 b)).run Tryd.prog w = .ok (.bool r) w := by subst h; simp [go_sem]
theorem sub5 {a : Int} (h0 : 48 ≤ a) (h1 : a ≤ 255) (x y : Operand) (w : World) : (do eqGuard .sub 5 x y (.int .u8 a) (.int .u8 48); binOp .sub 5 (.int .u8 a) (.int .u8 48)).run Tryd.prog w = .ok (.int .u8 (a - 48)) w := by
 have q : IntKind.u8.wrap (a - 48) = a - 48 := by rw [IntKind.wrap_u8]; omega
 simp [go_sem, q]
theorem cv52 {a : Int} (h0 : 0 ≤ a) (h1 : a ≤ 255) (w : World) : (convert 5 2 (.int .u8 a)).run Tryd.prog w = .ok (.int .i64 a) w := by
 have q : IntKind.i64.wrap a = a := by rw [IntKind.wrap_i64]; omega
 simp [go_sem, q]
theorem mul2 {a : Int} (h0 : 0 ≤ a) (h1 : a ≤ 9007199254740992) (x y : Operand) (w : World) : (do eqGuard .mul 2 x y (.int .i64 10) (.int .i64 a); binOp .mul 2 (.int .i64 10) (.int .i64 a)).run Tryd.prog w = .ok (.int .i64 (10 * a)) w := by
 have q : IntKind.i64.wrap (10 * a) = 10 * a := by rw [IntKind.wrap_i64]; omega
 simp [go_sem, q]
theorem add2 {a b : Int} (h0 : 0 ≤ a + b) (h1 : a + b ≤ 9223372036854775807) (x y : Operand) (w : World) : (do eqGuard .add 2 x y (.int .i64 a) (.int .i64 b); binOp .add 2 (.int .i64 a) (.int .i64 b)).run Tryd.prog w = .ok (.int .i64 (a + b)) w := by
 have q : IntKind.i64.wrap (a + b) = a + b := by rw [IntKind.wrap_i64]; omega
 simp [go_sem, q]
theorem dg_stop {s : ByteArray} {f i : Nat} {n : Int} (h : dgC s i n = false) : dgF s f i n = (n, i) := by
 cases f with
 | zero => rfl
 | succ f => rw [dgF, h]; rfl
theorem dg_on {s : ByteArray} {i : Nat} {n : Int} (h : dgC s i n = true) : dgF s (s.size - i) i n = dgF s (s.size - (i + 1)) (i + 1) (10 * n + (bt s i - 48)) := by
 have hi : i < s.size := by unfold dgC at h; simp at h; exact h.1
 rw [show s.size - i = s.size - (i + 1) + 1 by omega, dgF, if_pos h]
def mtc (l : List S5) (z : Int) (s : ByteArray) : Option (Ro × ByteArray) := if chn l z = [] then (bgn s ⟨#[47]⟩).map (fun u => (⟨z, 0, 0, 0⟩, u)) else mtL l (chn l z) 0 s ⟨z, 0, 0, 0⟩
theorem chn_le {l : List S5} (hs : snd l = true) {z : Int} (h0 : 0 ≤ z) (h1 : z < (l.length : Int)) : (chn l z).length ≤ 3 := by
 have q := chN_len hs z.toNat z [] (Nat.le_refl _) h0 h1
 obtain ⟨y, hy⟩ := get_of_lt (show z.toNat < l.length by omega)
 have := dp_at hs hy
 rw [dpA_at hy] at q
 unfold chn
 simp at q
 omega
theorem chN_in {l : List S5} (hs : snd l = true) : ∀ (n : Nat) (z : Int) (acc : List Int), 0 ≤ z → z < (l.length : Int) → (∀ x ∈ acc, 0 ≤ x ∧ x < (l.length : Int)) → ∀ x ∈ chN l n z acc, 0 ≤ x ∧ x < (l.length : Int)
 | 0, z, acc, _, _, h => h
 | n + 1, z, acc, h0, h1, h => by
  rw [chN]
  split
  ·exact h
  next e =>
   obtain ⟨y, hy⟩ := get_of_lt (show z.toNat < l.length by omega)
   obtain ⟨_, _, a, b, _⟩ := pr_at hs hy (by omega)
   rw [prA_at hy]
   refine chN_in hs n y.pr (z :: acc) a (by omega) ?_
   intro x hx
   rcases List.mem_cons.1 hx with rfl | hx
   ·exact ⟨h0, h1⟩
   ·exact h x hx
theorem chn_in {l : List S5} (hs : snd l = true) {z : Int} (h0 : 0 ≤ z) (h1 : z < (l.length : Int)) : ∀ x ∈ chn l z, 0 ≤ x ∧ x < (l.length : Int) := chN_in hs _ z [] h0 h1 (fun _ h => by cases h)
theorem drop_at {α : Type} {L : List α} {k : Nat} {x : α} (h : L[k]? = some x) : L.drop k = x :: L.drop (k + 1) := by
 have hk := lt_of_get h
 rw [List.drop_eq_getElem_cons hk]
 rw [List.getElem?_eq_getElem hk] at h
 cases h; rfl
theorem mt_on {l : List S5} {cs : List Int} {k : Nat} {z : Int} {s u : ByteArray} {r : Ro} (hz : cs[k]? = some z) (hb : bgn s (hdz l z) = some u) : mtL l (cs.drop k) k s r = mtL l (cs.drop (k + 1)) (k + 1) (u.extract (dgR u).2 u.size) (putK r k (dgR u).1) := by rw [drop_at hz, mtL, hb]
theorem mt_no {l : List S5} {cs : List Int} {k : Nat} {z : Int} {s : ByteArray} {r : Ro} (hz : cs[k]? = some z) (hb : bgn s (hdz l z) = none) : mtL l (cs.drop k) k s r = none := by rw [drop_at hz, mtL, hb]
theorem bgB_t {s h : ByteArray} (e : bgB s h = true) : bgn s h = some (bgS s h) := by
 unfold bgB at e; unfold bgS
 obtain ⟨x, hx⟩ := Option.isSome_iff_exists.1 e
 rw [hx]; rfl
theorem bgB_f {s h : ByteArray} (e : bgB s h = false) : bgn s h = none := by
 unfold bgB at e
 cases q : bgn s h with
 | none => rfl
 | some x => rw [q] at e; cases e
end Go.Proofs.YtnffhcjmpjajlaaDoor

namespace Go.Proofs.YtnffhcjmpjajlaaDoor
open Go.RowKit D
theorem w_ret3 {P : Program} {n : Nat} {l : List (Nat × Value)} {w : World} {fn : Func} {R : Ending → World → Prop} (x y z : ResultVar) (v u s : Value) (hf : fn.results = #[x, y, z]) (h : resv n l P w v x) (g : resv n l P w u y) (k : resv n l P w s z) (hR : R (.returned (.tuple #[v, u, s])) w) : WX (bodyPost P fn R) .ret n l w := by
 refine ⟨bodyPost_ret (v := .tuple #[v, u, s]) ?_ rfl hR⟩
 cases x with
 | cell a t => cases y <;> cases z <;> first | (obtain ⟨_, h1, h2⟩ := resv_cell h; first | (have g1 := resv_tmp g; first | (have k1 := resv_tmp k; simp [results, hf, h1, h2, g1, k1, asAddr]) | (obtain ⟨_, k1, k2⟩ := resv_cell k; simp [results, hf, h1, h2, g1, k1, k2, asAddr])) | (obtain ⟨_, g1, g2⟩ := resv_cell g; first | (have k1 := resv_tmp k; simp [results, hf, h1, h2, g1, g2, k1, asAddr]) | (obtain ⟨_, k1, k2⟩ := resv_cell k; simp [results, hf, h1, h2, g1, g2, k1, k2, asAddr])))
 | tmp t => cases y <;> cases z <;> first | (have h1 := resv_tmp h; first | (have g1 := resv_tmp g; first | (have k1 := resv_tmp k; simp [results, hf, h1, g1, k1]) | (obtain ⟨_, k1, k2⟩ := resv_cell k; simp [results, hf, h1, g1, k1, k2, asAddr])) | (obtain ⟨_, g1, g2⟩ := resv_cell g; first | (have k1 := resv_tmp k; simp [results, hf, h1, g1, g2, k1, asAddr]) | (obtain ⟨_, k1, k2⟩ := resv_cell k; simp [results, hf, h1, g1, g2, k1, k2, asAddr])))
def RwN (w : World) (b o : Nat) (cs : List Value) : Prop := Rw w b o cs
theorem rwn {w : World} {b o : Nat} {cs : List Value} (h : Rw w b o cs) : RwN w b o cs := h
theorem RwN.mo {w a c : World} {b o : Nat} {cs : List Value} (h : RwN w b o cs) (_ : Mo a c) : Rw w b o cs := h
theorem ex_sz (u : ByteArray) (a b : Nat) : (u.extract a b).size ≤ u.size := by rw [ByteArray.size_extract]; omega
theorem bgS_sz (s h : ByteArray) : (bgS s h).size ≤ s.size := by
 unfold bgS bgn
 split
 ·exact Nat.zero_le _
 ·split
  ·exact ex_sz _ _ _
  ·exact Nat.zero_le _
theorem mtc_nil {l : List S5} {z : Int} {s : ByteArray} (h : chn l z = []) : mtc l z s = (bgn s ⟨#[47]⟩).map (fun u => (⟨z, 0, 0, 0⟩, u)) := by unfold mtc; rw [if_pos h]
theorem mtc_ne {l : List S5} {z : Int} {s : ByteArray} (h : ¬ chn l z = []) : mtc l z s = mtL l ((chn l z).drop 0) 0 s ⟨z, 0, 0, 0⟩ := by unfold mtc; rw [if_neg h, List.drop_zero]
theorem nil_of {α : Type} {l : List α} (h : ((l.length : Nat) : Int) = 0) : l = [] := List.eq_nil_of_length_eq_zero (by omega)
def mtP (o : Option (Ro × ByteArray)) (e : Ending) : Prop := ∃ r : Ro, e = .returned (.tuple #[r.v, .string ((o.map (·.2)).getD ⟨#[]⟩), .bool o.isSome]) ∧ ∀ x, o = some x → r = x.1
theorem mtP_some {o : Option (Ro × ByteArray)} {r : Ro} {s : ByteArray} (h : o = some (r, s)) : mtP o (.returned (.tuple #[r.v, .string s, .bool true])) := ⟨r, by rw [h]; rfl, fun x hx => by rw [h] at hx; cases hx; rfl⟩
theorem mtP_none {o : Option (Ro × ByteArray)} {r : Ro} (h : o = none) : mtP o (.returned (.tuple #[r.v, .string ⟨#[]⟩, .bool false])) := ⟨r, by rw [h]; rfl, fun x hx => by rw [h] at hx; cases hx⟩
theorem mtP_map {b : Option ByteArray} {r : Ro} : mtP (b.map (fun u => (r, u))) (.returned (.tuple #[r.v, .string (b.getD ⟨#[]⟩), .bool b.isSome])) := by
 cases b with
 | none => exact mtP_none rfl
 | some u => exact mtP_some rfl
theorem ix105 {pa : Option Addr} {b off i n c : Nat} (hp : pa = some ⟨b, off, none⟩) (h : i < n) (w : World) : (Instr.indexAt 105 (.slice pa n c) (.int .i64 (i : Int))).run Tryd.prog w = .ok (pt b (off + i * 1)) w := by
 subst hp
 have e : (Instr.indexAt 105 (.slice (some ⟨b, off, none⟩) n c) (.int .i64 (i : Int))).run Tryd.prog w = .ok (.pointer (some ((⟨b, off, none⟩ : Addr).add (i * 1)))) w := by simp [go_sem, h]
 rw [e, Addr.add_mid]
theorem len105 (ρ : Operand → Value) (x : Operand) (p : Option Addr) (m c : Nat) (hx : ρ x = .slice p m c) (dst : Option Tmp) (type : TypeId) (pos : String) (after : Array Edge) (guard : Option (Nat × Bool)) (w : World) : (execOp ρ { dst, op := .call { callee := .builtin .len, args := #[x], argTypes := #[105] }, type, pos, after, guard }).run Tryd.prog w = .ok (.value (.int .i64 (m : Int))) w := by
 simp [go_sem, hx]
set_option maxHeartbeats 2000000 in
theorem match_n {L : List S5} {pl : Option Addr} {cl : Nat} {z : Int} {s : ByteArray} (w : World) (hL : LL w pl L) (hsn : snd L = true) (h0 : 0 ≤ z) (h1 : z < (L.length : Int)) (hs : s.size ≤ 9223372036854775807) : Calls Tryd.prog 37 #[.slice pl L.length cl, .int .i64 z, .string s] w fun e9 w' => mtP (mtc L z s) e9 ∧ Mo w w' := by
 refine w_enter 97 Tryd.func37 Tryd.ntmps37 rfl rfl ?_
 have M : Mo w w := Mo.refl _
 refine w_seq (w_reg ?_)
 refine wl_alloc 25 #[.int .i64 0, .int .i64 0, .int .i64 0, .int .i64 0] rfl (fun _ => by kernel_rfl) rfl ?_
 intro k1 u1 hk hz hq Q1
 have N_k1 : w.heap.size ≤ k1 := by have := M.size; omega
 replace M := M.trans hq
 clear hk hz hq
 refine wl_m (.const (.string ⟨#[]⟩)) (.string ⟨#[]⟩) ?_
 refine wl_m (.const (.bool false)) (.bool false) ?_
 refine w_nil (xn_then (w_seq (w_reg ?_)))
 refine wl_m (.tmp 1) (.int .i64 (z)) ?_
 refine wl_build 25 [(0, (.tmp 18))] [(0, .int .i64 (z))] (.agg #[.int .i64 (z), .int .i64 0, .int .i64 0, .int .i64 0]) rfl rfl (by kernel_rfl) rfl ?_
 refine wl_alloc 25 #[.int .i64 0, .int .i64 0, .int .i64 0, .int .i64 0] rfl (fun _ => by kernel_rfl) rfl ?_
 intro k2 u2 hk hz hq Q2
 have ne_k1_k2 : k1 ≠ k2 := by have := Q1.lt; omega
 have N_k2 : w.heap.size ≤ k2 := by have := M.size; omega
 replace Q1 := Q1.mo hq
 replace M := M.trans hq
 clear hk hz hq
 refine wl_st 25 (.tmp 9) (.tmp 19) k2 0 #[.int .i64 (z), .int .i64 0, .int .i64 0, .int .i64 0] _ [.int .i64 (z), .int .i64 0, .int .i64 0, .int .i64 0] Q2 rfl rfl rfl rfl rfl sz25 rfl rfl rfl ?_
 intro u3 hS Qn
 replace Q2 := Qn
 clear Qn
 replace Q1 := hS.other _ _ ne_k1_k2 Q1
 replace M := hS.mo _ N_k2 M
 clear hS
 refine w_nil (xn_then (w_seq (w_reg ?_)))
 refine wl_m (.tmp 0) (.slice pl L.length cl) ?_
 refine wl_m (.tmp 1) (.int .i64 (z)) ?_
 refine wl_callx 54 [(.tmp 20), (.tmp 21)] _ [.slice pl L.length cl, .int .i64 (z)] rfl rfl (fun _ _ => by kernel_rfl) (chain_n _ (hL.mo M) hsn h0 h1) rfl ?_
 rintro e9 u4 ⟨pc, cc, rfl, hC, hB, hq⟩
 refine ⟨_, rfl, ?_⟩
 have hB2 : ∀ a, pc = some a → ¬ a.block = k2 := fun a e q => by have := hB a e; have := Q2.lt; omega
 replace Q1 := Q1.mo hq
 replace Q2 := Q2.mo hq
 replace M := M.trans hq
 clear hq
 refine wl_m (.tmp 22) (.slice pc (chn L z).length cc) ?_
 refine w_nil (xn_then (w_seq (w_seq (w_reg ?_))))
 refine wl_m (.tmp 10) (.slice pc (chn L z).length cc) ?_
 refine wl_val (.int .i64 (((chn L z).length : Nat) : Int)) (len105 _ _ _ _ _ (by exact rfl) _ _ _ _ _ _) rfl ?_
 cases hf0 : decide ((((chn L z).length : Nat) : Int) = 0) with
 | true =>
  have hf0p := of_decide_eq_true hf0
  refine wl_b .eql 3 (.tmp 24) (.const (.int .i64 (0))) (.int .i64 (((chn L z).length : Nat) : Int)) (.int .i64 (0)) (.bool true) (eq3 hf0 _ _ _) ?_
  refine w_nil (xn_then (w_condT rfl (w_seq (w_reg ?_))))
  refine wl_m (.tmp 2) (.string s) ?_
  refine wl_call 55 [(.tmp 27), (.const (.string ⟨#[47]⟩))] _ [.string s, .string ⟨#[47]⟩] (.tuple #[.string (bgS s ⟨#[47]⟩), .bool ((bgB s ⟨#[47]⟩))]) rfl rfl (fun _ _ => by kernel_rfl) (begins_n _) rfl ?_
  intro u5 hq
  replace Q1 := Q1.mo hq
  replace Q2 := Q2.mo hq
  replace hC := hC.kp hq.kp
  replace M := M.trans hq
  clear hq
  refine wl_m (.tmp 28) (.tuple #[.string (bgS s ⟨#[47]⟩), .bool ((bgB s ⟨#[47]⟩))]) ?_
  refine wl_un (fun v => Instr.extract v 0) (.tmp 26) (.tuple #[.string (bgS s ⟨#[47]⟩), .bool ((bgB s ⟨#[47]⟩))]) (.string (bgS s ⟨#[47]⟩)) (fun _ => rfl) rfl (by kernel_rfl) rfl ?_
  refine wl_un (fun v => Instr.extract v 1) (.tmp 26) (.tuple #[.string (bgS s ⟨#[47]⟩), .bool ((bgB s ⟨#[47]⟩))]) (.bool ((bgB s ⟨#[47]⟩))) (fun _ => rfl) rfl (by kernel_rfl) rfl ?_
  refine wl_m (.tmp 29) (.string (bgS s ⟨#[47]⟩)) ?_
  refine wl_m (.tmp 30) (.bool ((bgB s ⟨#[47]⟩))) ?_
  refine w_nil (xn_then (w_seq (w_reg ?_)))
  refine wl_l 25 (.tmp 9) (pt k2 0) (.agg #[.int .i64 (z), .int .i64 0, .int .i64 0, .int .i64 0]) (run_row Q2 25 0 4 _ rfl Tryd.underlying25 rfl sz25) ?_
  refine wl_m (.tmp 11) (.string (bgS s ⟨#[47]⟩)) ?_
  refine wl_m (.tmp 12) (.bool ((bgB s ⟨#[47]⟩))) ?_
  refine wl_st 25 (.tmp 6) (.tmp 31) k1 0 #[.int .i64 (z), .int .i64 0, .int .i64 0, .int .i64 0] _ [.int .i64 (z), .int .i64 0, .int .i64 0, .int .i64 0] Q1 rfl rfl rfl rfl rfl sz25 rfl rfl rfl ?_
  intro u6 hS Qn
  replace Q1 := Qn
  clear Qn
  replace Q2 := hS.other _ _ ne_k1_k2.symm Q2
  replace M := hS.mo _ N_k1 M
  clear hS
  refine wl_m (.tmp 32) (.string (bgS s ⟨#[47]⟩)) ?_
  refine wl_m (.tmp 33) (.bool ((bgB s ⟨#[47]⟩))) ?_
  refine w_nil (xn_then (w_ret (xr_then ?_)))
  exact w_ret3 _ _ _ (.agg #[.int .i64 (z), .int .i64 0, .int .i64 0, .int .i64 0]) (.string (bgS s ⟨#[47]⟩)) (.bool ((bgB s ⟨#[47]⟩))) rfl ⟨k1, rfl, (run_row Q1 25 0 4 _ rfl Tryd.underlying25 rfl sz25)⟩ rfl rfl ⟨by rw [mtc_nil (nil_of hf0p)]; exact mtP_map, M⟩
 | false =>
  have hf0p := of_decide_eq_false hf0
  refine wl_b .eql 3 (.tmp 24) (.const (.int .i64 (0))) (.int .i64 (((chn L z).length : Nat) : Int)) (.int .i64 (0)) (.bool false) (eq3 hf0 _ _ _) ?_
  refine w_nil (xn_then (w_condF rfl (w_skip (xn_then (w_seq (w_seq (w_reg ?_)))))))
  refine wl_m (.const (.int .i64 (0))) (.int .i64 (0)) ?_
  refine w_nil (xn_then (w_block ?_))
  have hne : ¬ (chn L z) = [] := fun e => by rw [e] at hf0; simp at hf0
  have h3 := chn_le hsn h0 h1
  refine w_loop (fun m l9 w1 => ∃ (k : Nat) (r1 : Ro) (s1 : ByteArray), m = (chn L z).length - k ∧ k ≤ (chn L z).length ∧ look l9 0 = .slice pl L.length cl ∧ look l9 2 = .string s1 ∧ look l9 6 = pt k1 0 ∧ look l9 9 = pt k2 0 ∧ look l9 10 = .slice pc (chn L z).length cc ∧ look l9 13 = .int .i64 (k : Int) ∧ At w1 k1 [.int .i64 0, .int .i64 0, .int .i64 0, .int .i64 0] ∧ At w1 k2 r1.cells ∧ SI w1 pc (chn L z) ∧ s1.size ≤ 9223372036854775807 ∧ mtL L ((chn L z).drop k) k s1 r1 = mtc L z s ∧ Mo w w1) _ ⟨0, ⟨z, 0, 0, 0⟩, s, rfl, Nat.zero_le _, rfl, rfl, rfl, rfl, rfl, rfl, Q1, Q2, hC, hs, (mtc_ne hne).symm, M⟩ ?_
  clear M Q1 Q2 hC
  rintro m l9 wl ⟨k, r1, s1, rfl, hk, e0, e2, e6, e9, e10, e13, Q1, Q2, hC, hsz, hmt, M⟩
  by_cases hkl : k < (chn L z).length
  ·skip
   have hkd : decide (k < (chn L z).length) = true := decide_eq_true hkl
   obtain ⟨zk, hzk⟩ := get_of_lt hkl
   obtain ⟨hz0, hz1⟩ := chn_in hsn h0 h1 zk (List.mem_of_getElem? hzk)
   obtain ⟨y, hy⟩ := get_of_lt (show zk.toNat < L.length by omega)
   have hly := lt_of_get hy
   obtain ⟨bp, op, hpp, hRp⟩ := D.SL.rw hL.sl hy
   have hny := hL.nm y (List.mem_of_getElem? hy)
   obtain ⟨c1, c2, _, _⟩ := V.szc (a := y.nm) (b := ⟨#[]⟩) (c := ⟨#[]⟩) (by show y.nm.size + 0 + 0 + 2 ≤ _; omega)
   refine w_seq (w_seq (w_reg ?_))
   refine wl_mv (.tmp 13) (.int .i64 ((k : Nat) : Int)) (fun _ => rfl) e13 rfl ?_
   refine wl_mv (.tmp 10) (.slice pc (chn L z).length cc) (fun _ => rfl) e10 rfl ?_
   refine wl_val (.int .i64 (((chn L z).length : Nat) : Int)) (len105 _ _ _ _ _ (by exact rfl) _ _ _ _ _ _) rfl ?_
   refine wl_b .lss 3 (.tmp 34) (.tmp 36) (.int .i64 ((k : Nat) : Int)) (.int .i64 (((chn L z).length : Nat) : Int)) (.bool true) (ltN hkd _ _ _) ?_
   refine w_nil (xn_then (w_condT rfl (w_skip (xn_then (w_seq (w_block (w_seq (w_reg ?_))))))))
   refine wl_mv (.tmp 2) (.string s1) (fun _ => rfl) e2 rfl ?_
   refine wl_mv (.tmp 0) (.slice pl L.length cl) (fun _ => rfl) e0 rfl ?_
   refine wl_mv (.tmp 10) (.slice pc (chn L z).length cc) (fun _ => rfl) e10 rfl ?_
   refine wl_mv (.tmp 13) (.int .i64 ((k : Nat) : Int)) (fun _ => rfl) e13 rfl ?_
   obtain ⟨bq, oq, hpq, hRq⟩ := D.SL.rw hC hzk
   refine wl_bin (fun x y => Instr.indexAt 105 x y) (.tmp 43) (.tmp 44) (.slice pc (chn L z).length cc) (.int .i64 ((k : Nat) : Int)) (pt bq (oq + k * 1)) (fun _ => rfl) rfl rfl (ix105 (i := k) hpq hkl _) rfl ?_
   refine wl_l 3 (.tmp 45) (pt bq (oq + k * 1)) (.int .i64 (zk)) (D.run_oneR ((rwn hRq).mo M).at' 3 0 rfl Tryd.underlying3 rfl) ?_
   refine wl_bin (fun x y => Instr.indexAt 22 x y) (.tmp 42) (.tmp 46) (.slice pl L.length cl) (.int .i64 (zk)) (pt bp (op + zk.toNat * 5)) (fun _ => rfl) rfl rfl (ix22I hz0 hpp hly _) rfl ?_
   refine wl_f 65 2 (.tmp 47) (pt bp (op + zk.toNat * 5)) (pt bp (op + zk.toNat * 5 + 2)) ?_
   refine wl_l 9 (.tmp 48) (pt bp (op + zk.toNat * 5 + 2)) (.string y.nm) (D.run_oneR (hRp.mo M).at' 9 2 rfl Tryd.underlying9 rfl) ?_
   refine wl_b .add 9 (.const (.string ⟨#[47]⟩)) (.tmp 49) (.string ⟨#[47]⟩) (.string y.nm) (.string (V.catB ⟨#[47]⟩ y.nm)) (V.catc c1 _ _ _) ?_
   refine wl_b .add 9 (.tmp 50) (.const (.string ⟨#[58]⟩)) (.string (V.catB ⟨#[47]⟩ y.nm)) (.string ⟨#[58]⟩) (.string (V.catB (V.catB ⟨#[47]⟩ y.nm) ⟨#[58]⟩)) (V.catc c2 _ _ _) ?_
   refine wl_call 55 [(.tmp 41), (.tmp 51)] _ [.string s1, .string (V.catB (V.catB ⟨#[47]⟩ y.nm) ⟨#[58]⟩)] (.tuple #[.string (bgS s1 (V.catB (V.catB ⟨#[47]⟩ y.nm) ⟨#[58]⟩)), .bool ((bgB s1 (V.catB (V.catB ⟨#[47]⟩ y.nm) ⟨#[58]⟩)))]) rfl rfl (fun _ _ => by kernel_rfl) (begins_n _) rfl ?_
   intro u41 hq
   replace Q1 := Q1.mo hq
   replace Q2 := Q2.mo hq
   replace hC := hC.kp hq.kp
   replace M := M.trans hq
   clear hq
   refine wl_m (.tmp 52) (.tuple #[.string (bgS s1 (V.catB (V.catB ⟨#[47]⟩ y.nm) ⟨#[58]⟩)), .bool ((bgB s1 (V.catB (V.catB ⟨#[47]⟩ y.nm) ⟨#[58]⟩)))]) ?_
   refine wl_un (fun v => Instr.extract v 0) (.tmp 40) (.tuple #[.string (bgS s1 (V.catB (V.catB ⟨#[47]⟩ y.nm) ⟨#[58]⟩)), .bool ((bgB s1 (V.catB (V.catB ⟨#[47]⟩ y.nm) ⟨#[58]⟩)))]) (.string (bgS s1 (V.catB (V.catB ⟨#[47]⟩ y.nm) ⟨#[58]⟩))) (fun _ => rfl) rfl (by kernel_rfl) rfl ?_
   refine wl_un (fun v => Instr.extract v 1) (.tmp 40) (.tuple #[.string (bgS s1 (V.catB (V.catB ⟨#[47]⟩ y.nm) ⟨#[58]⟩)), .bool ((bgB s1 (V.catB (V.catB ⟨#[47]⟩ y.nm) ⟨#[58]⟩)))]) (.bool ((bgB s1 (V.catB (V.catB ⟨#[47]⟩ y.nm) ⟨#[58]⟩)))) (fun _ => rfl) rfl (by kernel_rfl) rfl ?_
   refine wl_m (.tmp 53) (.string (bgS s1 (V.catB (V.catB ⟨#[47]⟩ y.nm) ⟨#[58]⟩))) ?_
   refine wl_m (.tmp 54) (.bool ((bgB s1 (V.catB (V.catB ⟨#[47]⟩ y.nm) ⟨#[58]⟩)))) ?_
   refine w_nil (xn_then (w_seq (w_seq (w_reg ?_))))
   refine wl_m (.tmp 15) (.bool ((bgB s1 (V.catB (V.catB ⟨#[47]⟩ y.nm) ⟨#[58]⟩)))) ?_
   refine wl_un (fun v => Op.unary .not v) (.tmp 55) (.bool ((bgB s1 (V.catB (V.catB ⟨#[47]⟩ y.nm) ⟨#[58]⟩)))) (.bool (!(bgB s1 (V.catB (V.catB ⟨#[47]⟩ y.nm) ⟨#[58]⟩)))) (fun _ => rfl) rfl (notb _ _) rfl ?_
   refine w_nil (xn_then ?_)
   cases hf30 : !(bgB s1 (V.catB (V.catB ⟨#[47]⟩ y.nm) ⟨#[58]⟩)) with
   | true =>
    refine w_condT rfl (w_seq (w_reg ?_))
    refine wl_load 25 (.tmp 9) (pt k2 0) (.agg (r1.cells).toArray) rfl e9 (run_row Q2 25 0 4 (r1.cells) rfl Tryd.underlying25 rfl sz25) rfl ?_
    refine wl_st 25 (.tmp 6) (.tmp 57) k1 0 ((r1.cells).toArray) _ (r1.cells) Q1 rfl rfl e6 rfl rfl sz25 rfl rfl rfl ?_
    intro u42 hS Qn
    replace Q1 := Qn
    clear Qn
    replace Q2 := hS.other _ _ ne_k1_k2.symm Q2
    replace M := hS.mo _ N_k1 M
    clear hS
    refine wl_m (.const (.string ⟨#[]⟩)) (.string ⟨#[]⟩) ?_
    refine wl_m (.const (.bool false)) (.bool false) ?_
    refine w_nil (xn_then (w_ret (xr_then (xr_blk (xr_then (xr_then (xr_blk (xr_then ?_))))))))
    exact w_ret3 _ _ _ (.agg (r1.cells).toArray) (.string ⟨#[]⟩) (.bool false) rfl ⟨k1, e6, (run_row Q1 25 0 4 (r1.cells) rfl Tryd.underlying25 rfl sz25)⟩ rfl rfl ⟨mtP_none (r := (⟨r1.s, r1.a, r1.b, r1.c⟩ : Ro)) (by rw [← hmt]; exact mt_no hzk (by rw [hdz_at hy]; exact bgB_f (by have h9 := hf30; revert h9; cases bgB s1 (V.catB (V.catB ⟨#[47]⟩ y.nm) ⟨#[58]⟩) <;> simp))), M⟩
   | false =>
    refine w_condF rfl (w_skip (xn_then (w_seq ?_)))
    obtain ⟨u, hu⟩ : ∃ u, u = bgS s1 (V.catB (V.catB ⟨#[47]⟩ y.nm) ⟨#[58]⟩) := ⟨_, rfl⟩
    have hus : u.size ≤ 9223372036854775807 := by have := bgS_sz s1 (V.catB (V.catB ⟨#[47]⟩ y.nm) ⟨#[58]⟩); rw [← hu] at this; omega
    have hbg : bgn s1 (hdz L zk) = some u := by rw [hdz_at hy, hu]; exact bgB_t (by have h9 := hf30; revert h9; cases bgB s1 (V.catB (V.catB ⟨#[47]⟩ y.nm) ⟨#[58]⟩) <;> simp)
    refine w_reg ?_
    refine wl_m (.const (.int .i64 (0))) (.int .i64 (0)) ?_
    refine w_nil (xn_then (w_seq (w_reg ?_)))
    refine wl_m (.const (.int .i64 (0))) (.int .i64 (0)) ?_
    refine w_nil (xn_then (w_seq (w_block ?_)))
    refine w_loop (fun m l9 w1 => ∃ (i : Nat) (n : Int), m = u.size - i ∧ i ≤ u.size ∧ look l9 0 = .slice pl L.length cl ∧ look l9 6 = pt k1 0 ∧ look l9 9 = pt k2 0 ∧ look l9 10 = .slice pc (chn L z).length cc ∧ look l9 13 = .int .i64 (k : Int) ∧ look l9 14 = .string u ∧ look l9 16 = .int .i64 n ∧ look l9 17 = .int .i64 (i : Int) ∧ At w1 k1 [.int .i64 0, .int .i64 0, .int .i64 0, .int .i64 0] ∧ At w1 k2 r1.cells ∧ SI w1 pc (chn L z) ∧ 0 ≤ n ∧ n ≤ 90071992547409930 ∧ dgF u (u.size - i) i n = dgR u ∧ Mo w w1) _ ⟨0, 0, rfl, Nat.zero_le _, e0, e6, e9, e10, e13, (Eq.trans (show _ = Value.string (bgS s1 (V.catB (V.catB ⟨#[47]⟩ y.nm) ⟨#[58]⟩)) from rfl) (congrArg Value.string hu.symm)), rfl, rfl, Q1, Q2, hC, by omega, by omega, rfl, M⟩ ?_
    clear M Q1 Q2 hC
    rintro m l9b wl2 ⟨i, n, rfl, hi, g0, g6, g9, g10, g13, g14, g16, g17, Q1, Q2, hC, hn0, hn1, hdg, M⟩
    have hbb := bt_bd u i
    refine w_seq (w_seq (w_reg ?_))
    refine wl_mv (.tmp 17) (.int .i64 ((i : Nat) : Int)) (fun _ => rfl) g17 rfl ?_
    refine wl_mv (.tmp 14) (.string u) (fun _ => rfl) g14 rfl ?_
    refine wl_val (.int .i64 ((u.size : Nat) : Int)) (len_s _ _ _ (by exact rfl) _ _ _ _ _ _) rfl ?_
    cases hf60 : decide (i < u.size) with
    | true =>
     have hf60p := of_decide_eq_true hf60
     refine wl_b .lss 3 (.tmp 58) (.tmp 60) (.int .i64 ((i : Nat) : Int)) (.int .i64 ((u.size : Nat) : Int)) (.bool true) (ltN hf60 _ _ _) ?_
     refine wl_m (.tmp 61) (.bool true) ?_
     refine wl_mv (.tmp 14) (.string u) (fun _ => rfl) g14 rfl ?_
     refine wl_mv (.tmp 17) (.int .i64 ((i : Nat) : Int)) (fun _ => rfl) g17 rfl ?_
     refine wl_bin (fun x y => Instr.index 9 x y) (.tmp 63) (.tmp 64) (.string u) (.int .i64 ((i : Nat) : Int)) (.int .u8 (bt u i)) (fun _ => rfl) rfl rfl (idx_b (by omega) _) rfl ?_
     cases hf61 : decide (48 ≤ bt u i) with
     | true =>
      have hf61p := of_decide_eq_true hf61
      refine wl_b .geq 5 (.tmp 65) (.const (.int .u8 (48))) (.int .u8 (bt u i)) (.int .u8 (48)) (.bool true) (ge5 hf61 _ _ _) ?_
      refine wl_pick (.tmp 62) (.tmp 66) (.const (.bool false)) true (.bool true) (fun _ => rfl) rfl rfl rfl ?_
      refine wl_m (.tmp 67) (.bool true) ?_
      refine wl_mv (.tmp 14) (.string u) (fun _ => rfl) g14 rfl ?_
      refine wl_mv (.tmp 17) (.int .i64 ((i : Nat) : Int)) (fun _ => rfl) g17 rfl ?_
      refine wl_bin (fun x y => Instr.index 9 x y) (.tmp 69) (.tmp 70) (.string u) (.int .i64 ((i : Nat) : Int)) (.int .u8 (bt u i)) (fun _ => rfl) rfl rfl (idx_b (by omega) _) rfl ?_
      cases hf62 : decide (bt u i ≤ 57) with
      | true =>
       have hf62p := of_decide_eq_true hf62
       refine wl_b .leq 5 (.tmp 71) (.const (.int .u8 (57))) (.int .u8 (bt u i)) (.int .u8 (57)) (.bool true) (le5 hf62 _ _ _) ?_
       refine wl_pick (.tmp 68) (.tmp 72) (.const (.bool false)) true (.bool true) (fun _ => rfl) rfl rfl rfl ?_
       refine wl_m (.tmp 73) (.bool true) ?_
       refine wl_mv (.tmp 16) (.int .i64 (n)) (fun _ => rfl) g16 rfl ?_
       cases hf63 : decide (n ≤ 9007199254740992) with
       | true =>
        have hf63p := of_decide_eq_true hf63
        refine wl_b .leq 2 (.tmp 75) (.const (.int .i64 (9007199254740992))) (.int .i64 (n)) (.int .i64 (9007199254740992)) (.bool true) (le2 hf63 _ _ _) ?_
        refine wl_pick (.tmp 74) (.tmp 76) (.const (.bool false)) true (.bool true) (fun _ => rfl) rfl rfl rfl ?_
        refine w_nil (xn_then (w_condT rfl (w_skip (xn_then (w_block (w_seq (w_reg ?_)))))))
        refine wl_mv (.tmp 16) (.int .i64 (n)) (fun _ => rfl) g16 rfl ?_
        refine wl_b .mul 2 (.const (.int .i64 (10))) (.tmp 78) (.int .i64 (10)) (.int .i64 (n)) (.int .i64 (10 * n)) (mul2 (by omega) (by omega) _ _ _) ?_
        refine wl_mv (.tmp 14) (.string u) (fun _ => rfl) g14 rfl ?_
        refine wl_mv (.tmp 17) (.int .i64 ((i : Nat) : Int)) (fun _ => rfl) g17 rfl ?_
        refine wl_bin (fun x y => Instr.index 9 x y) (.tmp 80) (.tmp 81) (.string u) (.int .i64 ((i : Nat) : Int)) (.int .u8 (bt u i)) (fun _ => rfl) rfl rfl (idx_b (by omega) _) rfl ?_
        refine wl_b .sub 5 (.tmp 82) (.const (.int .u8 (48))) (.int .u8 (bt u i)) (.int .u8 (48)) (.int .u8 (bt u i - 48)) (sub5 (by omega) (by omega) _ _ _) ?_
        refine wl_un (fun v => convert 5 2 v) (.tmp 83) (.int .u8 (bt u i - 48)) (.int .i64 (bt u i - 48)) (fun _ => rfl) rfl (cv52 (by omega) (by omega) _) rfl ?_
        refine wl_b .add 2 (.tmp 79) (.tmp 84) (.int .i64 (10 * n)) (.int .i64 (bt u i - 48)) (.int .i64 (10 * n + (bt u i - 48))) (add2 (by omega) (by omega) _ _ _) ?_
        refine wl_m (.tmp 85) (.int .i64 (10 * n + (bt u i - 48))) ?_
        refine w_nil (xn_then (w_reg ?_))
        refine wl_mv (.tmp 17) (.int .i64 ((i : Nat) : Int)) (fun _ => rfl) g17 rfl ?_
        refine wl_b .add 3 (.tmp 86) (.const (.int .i64 (1))) (.int .i64 ((i : Nat) : Int)) (.int .i64 (1)) (.int .i64 ((i + 1 : Nat) : Int)) (add1r (k := i) (by omega) _ _ _) ?_
        refine wl_m (.tmp 87) (.int .i64 ((i + 1 : Nat) : Int)) ?_
        refine w_nil (xn_blk ?_)
        have hcc : dgC u i n = true := by unfold dgC; simp; omega
        exact xn_loop (u.size - (i + 1)) (by omega) ⟨i + 1, 10 * n + (bt u i - 48), rfl, by omega, g0, g6, g9, g10, g13, g14, rfl, rfl, Q1, Q2, hC, by omega, by omega, (dg_on hcc).symm.trans hdg, M⟩
       | false =>
        have hf63p := of_decide_eq_false hf63
        refine wl_b .leq 2 (.tmp 75) (.const (.int .i64 (9007199254740992))) (.int .i64 (n)) (.int .i64 (9007199254740992)) (.bool false) (le2 hf63 _ _ _) ?_
        refine wl_pick (.tmp 74) (.tmp 76) (.const (.bool false)) true (.bool false) (fun _ => rfl) rfl rfl rfl ?_
        refine w_nil (xn_then (w_condF rfl (w_exit (xx_then (xx_then (xx_blk (xn_then (w_seq (w_reg ?_)))))))))
        refine wl_mv (.tmp 13) (.int .i64 ((k : Nat) : Int)) (fun _ => rfl) g13 rfl ?_
        refine wl_mv (.tmp 16) (.int .i64 (n)) (fun _ => rfl) g16 rfl ?_
        refine wl_un (fun v => Instr.fieldAt 25 v 1) (.tmp 9) (pt k2 0) (pt k2 1) (fun _ => rfl) g9 (by kernel_rfl) rfl ?_
        cases hf64 : decide (k = 0) with
        | true =>
         have hf64p := of_decide_eq_true hf64
         refine wl_bin (fun x y => Instr.indexAt 23 x y) (.tmp 90) (.tmp 88) (pt k2 1) (.int .i64 ((k : Nat) : Int)) (pt k2 1) (fun _ => rfl) rfl rfl (by rw [show k = 0 by omega]; kernel_rfl) rfl ?_
         refine wl_stm1 2 (.tmp 91) (.tmp 89) k2 1 (.int .i64 (n)) (r1.cells) [.int .i64 r1.s, .int .i64 (n), .int .i64 r1.b, .int .i64 r1.c] Q2 rfl rfl rfl rfl rfl sz2 rfl rfl rfl rfl ?_
         intro u81 hS9 hm9 Qn
         replace Q2 := Qn
         clear Qn
         replace Q1 := hS9.other _ _ ne_k1_k2 Q1
         replace hC := si_mk hC hm9 hB2
         replace M := hS9.mo _ N_k2 M
         clear hS9 hm9
         refine w_nil (xn_then (w_reg ?_))
         refine wl_mv (.tmp 14) (.string u) (fun _ => rfl) g14 rfl ?_
         refine wl_mv (.tmp 17) (.int .i64 ((i : Nat) : Int)) (fun _ => rfl) g17 rfl ?_
         refine wl_val (.string (u.extract i u.size)) (slb_lo _ _ _ u i (by exact rfl) (by exact rfl) hi _ _ _ _ _ _) rfl ?_
         refine wl_m (.tmp 94) (.string (u.extract i u.size)) ?_
         refine w_nil (xn_blk (xn_then (w_reg ?_)))
         refine wl_mv (.tmp 13) (.int .i64 ((k : Nat) : Int)) (fun _ => rfl) g13 rfl ?_
         refine wl_b .add 3 (.tmp 38) (.const (.int .i64 (1))) (.int .i64 ((k : Nat) : Int)) (.int .i64 (1)) (.int .i64 ((k + 1 : Nat) : Int)) (add1r (k := k) (by omega) _ _ _) ?_
         refine wl_m (.tmp 39) (.int .i64 ((k + 1 : Nat) : Int)) ?_
         refine w_nil ?_
         have hcc : dgC u i n = false := by unfold dgC; simp; omega
         have hdr : dgR u = (n, i) := hdg.symm.trans (dg_stop hcc)
         exact xn_loop ((chn L z).length - (k + 1)) (by omega) ⟨k + 1, (⟨r1.s, n, r1.b, r1.c⟩ : Ro), u.extract i u.size, rfl, by omega, g0, rfl, g6, g9, g10, rfl, Q1, Q2, hC, Nat.le_trans (ex_sz _ _ _) hus, (by rw [← hmt, mt_on hzk hbg, hdr]; simp [putK, hf64p]), M⟩
        | false =>
         have hf64p := of_decide_eq_false hf64
         cases hf65 : decide (k = 1) with
         | true =>
          have hf65p := of_decide_eq_true hf65
          refine wl_bin (fun x y => Instr.indexAt 23 x y) (.tmp 90) (.tmp 88) (pt k2 1) (.int .i64 ((k : Nat) : Int)) (pt k2 2) (fun _ => rfl) rfl rfl (by rw [show k = 1 by omega]; kernel_rfl) rfl ?_
          refine wl_stm1 2 (.tmp 91) (.tmp 89) k2 2 (.int .i64 (n)) (r1.cells) [.int .i64 r1.s, .int .i64 r1.a, .int .i64 (n), .int .i64 r1.c] Q2 rfl rfl rfl rfl rfl sz2 rfl rfl rfl rfl ?_
          intro u81 hS9 hm9 Qn
          replace Q2 := Qn
          clear Qn
          replace Q1 := hS9.other _ _ ne_k1_k2 Q1
          replace hC := si_mk hC hm9 hB2
          replace M := hS9.mo _ N_k2 M
          clear hS9 hm9
          refine w_nil (xn_then (w_reg ?_))
          refine wl_mv (.tmp 14) (.string u) (fun _ => rfl) g14 rfl ?_
          refine wl_mv (.tmp 17) (.int .i64 ((i : Nat) : Int)) (fun _ => rfl) g17 rfl ?_
          refine wl_val (.string (u.extract i u.size)) (slb_lo _ _ _ u i (by exact rfl) (by exact rfl) hi _ _ _ _ _ _) rfl ?_
          refine wl_m (.tmp 94) (.string (u.extract i u.size)) ?_
          refine w_nil (xn_blk (xn_then (w_reg ?_)))
          refine wl_mv (.tmp 13) (.int .i64 ((k : Nat) : Int)) (fun _ => rfl) g13 rfl ?_
          refine wl_b .add 3 (.tmp 38) (.const (.int .i64 (1))) (.int .i64 ((k : Nat) : Int)) (.int .i64 (1)) (.int .i64 ((k + 1 : Nat) : Int)) (add1r (k := k) (by omega) _ _ _) ?_
          refine wl_m (.tmp 39) (.int .i64 ((k + 1 : Nat) : Int)) ?_
          refine w_nil ?_
          have hcc : dgC u i n = false := by unfold dgC; simp; omega
          have hdr : dgR u = (n, i) := hdg.symm.trans (dg_stop hcc)
          exact xn_loop ((chn L z).length - (k + 1)) (by omega) ⟨k + 1, (⟨r1.s, r1.a, n, r1.c⟩ : Ro), u.extract i u.size, rfl, by omega, g0, rfl, g6, g9, g10, rfl, Q1, Q2, hC, Nat.le_trans (ex_sz _ _ _) hus, (by rw [← hmt, mt_on hzk hbg, hdr]; simp [putK, hf65p]), M⟩
         | false =>
          have hf65p := of_decide_eq_false hf65
          refine wl_bin (fun x y => Instr.indexAt 23 x y) (.tmp 90) (.tmp 88) (pt k2 1) (.int .i64 ((k : Nat) : Int)) (pt k2 3) (fun _ => rfl) rfl rfl (by rw [show k = 2 by omega]; kernel_rfl) rfl ?_
          refine wl_stm1 2 (.tmp 91) (.tmp 89) k2 3 (.int .i64 (n)) (r1.cells) [.int .i64 r1.s, .int .i64 r1.a, .int .i64 r1.b, .int .i64 (n)] Q2 rfl rfl rfl rfl rfl sz2 rfl rfl rfl rfl ?_
          intro u81 hS9 hm9 Qn
          replace Q2 := Qn
          clear Qn
          replace Q1 := hS9.other _ _ ne_k1_k2 Q1
          replace hC := si_mk hC hm9 hB2
          replace M := hS9.mo _ N_k2 M
          clear hS9 hm9
          refine w_nil (xn_then (w_reg ?_))
          refine wl_mv (.tmp 14) (.string u) (fun _ => rfl) g14 rfl ?_
          refine wl_mv (.tmp 17) (.int .i64 ((i : Nat) : Int)) (fun _ => rfl) g17 rfl ?_
          refine wl_val (.string (u.extract i u.size)) (slb_lo _ _ _ u i (by exact rfl) (by exact rfl) hi _ _ _ _ _ _) rfl ?_
          refine wl_m (.tmp 94) (.string (u.extract i u.size)) ?_
          refine w_nil (xn_blk (xn_then (w_reg ?_)))
          refine wl_mv (.tmp 13) (.int .i64 ((k : Nat) : Int)) (fun _ => rfl) g13 rfl ?_
          refine wl_b .add 3 (.tmp 38) (.const (.int .i64 (1))) (.int .i64 ((k : Nat) : Int)) (.int .i64 (1)) (.int .i64 ((k + 1 : Nat) : Int)) (add1r (k := k) (by omega) _ _ _) ?_
          refine wl_m (.tmp 39) (.int .i64 ((k + 1 : Nat) : Int)) ?_
          refine w_nil ?_
          have hcc : dgC u i n = false := by unfold dgC; simp; omega
          have hdr : dgR u = (n, i) := hdg.symm.trans (dg_stop hcc)
          exact xn_loop ((chn L z).length - (k + 1)) (by omega) ⟨k + 1, (⟨r1.s, r1.a, r1.b, n⟩ : Ro), u.extract i u.size, rfl, by omega, g0, rfl, g6, g9, g10, rfl, Q1, Q2, hC, Nat.le_trans (ex_sz _ _ _) hus, (by rw [← hmt, mt_on hzk hbg, hdr]; simp [putK, hf64p, hf65p]), M⟩
      | false =>
       have hf62p := of_decide_eq_false hf62
       refine wl_b .leq 5 (.tmp 71) (.const (.int .u8 (57))) (.int .u8 (bt u i)) (.int .u8 (57)) (.bool false) (le5 hf62 _ _ _) ?_
       refine wl_pick (.tmp 68) (.tmp 72) (.const (.bool false)) true (.bool false) (fun _ => rfl) rfl rfl rfl ?_
       refine wl_m (.tmp 73) (.bool false) ?_
       refine wl_skip rfl (wl_skip rfl ?_)
       refine wl_pick (.tmp 74) (.tmp 76) (.const (.bool false)) false (.bool false) (fun _ => rfl) rfl rfl rfl ?_
       refine w_nil (xn_then (w_condF rfl (w_exit (xx_then (xx_then (xx_blk (xn_then (w_seq (w_reg ?_)))))))))
       refine wl_mv (.tmp 13) (.int .i64 ((k : Nat) : Int)) (fun _ => rfl) g13 rfl ?_
       refine wl_mv (.tmp 16) (.int .i64 (n)) (fun _ => rfl) g16 rfl ?_
       refine wl_un (fun v => Instr.fieldAt 25 v 1) (.tmp 9) (pt k2 0) (pt k2 1) (fun _ => rfl) g9 (by kernel_rfl) rfl ?_
       cases hf63 : decide (k = 0) with
       | true =>
        have hf63p := of_decide_eq_true hf63
        refine wl_bin (fun x y => Instr.indexAt 23 x y) (.tmp 90) (.tmp 88) (pt k2 1) (.int .i64 ((k : Nat) : Int)) (pt k2 1) (fun _ => rfl) rfl rfl (by rw [show k = 0 by omega]; kernel_rfl) rfl ?_
        refine wl_stm1 2 (.tmp 91) (.tmp 89) k2 1 (.int .i64 (n)) (r1.cells) [.int .i64 r1.s, .int .i64 (n), .int .i64 r1.b, .int .i64 r1.c] Q2 rfl rfl rfl rfl rfl sz2 rfl rfl rfl rfl ?_
        intro u81 hS9 hm9 Qn
        replace Q2 := Qn
        clear Qn
        replace Q1 := hS9.other _ _ ne_k1_k2 Q1
        replace hC := si_mk hC hm9 hB2
        replace M := hS9.mo _ N_k2 M
        clear hS9 hm9
        refine w_nil (xn_then (w_reg ?_))
        refine wl_mv (.tmp 14) (.string u) (fun _ => rfl) g14 rfl ?_
        refine wl_mv (.tmp 17) (.int .i64 ((i : Nat) : Int)) (fun _ => rfl) g17 rfl ?_
        refine wl_val (.string (u.extract i u.size)) (slb_lo _ _ _ u i (by exact rfl) (by exact rfl) hi _ _ _ _ _ _) rfl ?_
        refine wl_m (.tmp 94) (.string (u.extract i u.size)) ?_
        refine w_nil (xn_blk (xn_then (w_reg ?_)))
        refine wl_mv (.tmp 13) (.int .i64 ((k : Nat) : Int)) (fun _ => rfl) g13 rfl ?_
        refine wl_b .add 3 (.tmp 38) (.const (.int .i64 (1))) (.int .i64 ((k : Nat) : Int)) (.int .i64 (1)) (.int .i64 ((k + 1 : Nat) : Int)) (add1r (k := k) (by omega) _ _ _) ?_
        refine wl_m (.tmp 39) (.int .i64 ((k + 1 : Nat) : Int)) ?_
        refine w_nil ?_
        have hcc : dgC u i n = false := by unfold dgC; simp; omega
        have hdr : dgR u = (n, i) := hdg.symm.trans (dg_stop hcc)
        exact xn_loop ((chn L z).length - (k + 1)) (by omega) ⟨k + 1, (⟨r1.s, n, r1.b, r1.c⟩ : Ro), u.extract i u.size, rfl, by omega, g0, rfl, g6, g9, g10, rfl, Q1, Q2, hC, Nat.le_trans (ex_sz _ _ _) hus, (by rw [← hmt, mt_on hzk hbg, hdr]; simp [putK, hf63p]), M⟩
       | false =>
        have hf63p := of_decide_eq_false hf63
        cases hf64 : decide (k = 1) with
        | true =>
         have hf64p := of_decide_eq_true hf64
         refine wl_bin (fun x y => Instr.indexAt 23 x y) (.tmp 90) (.tmp 88) (pt k2 1) (.int .i64 ((k : Nat) : Int)) (pt k2 2) (fun _ => rfl) rfl rfl (by rw [show k = 1 by omega]; kernel_rfl) rfl ?_
         refine wl_stm1 2 (.tmp 91) (.tmp 89) k2 2 (.int .i64 (n)) (r1.cells) [.int .i64 r1.s, .int .i64 r1.a, .int .i64 (n), .int .i64 r1.c] Q2 rfl rfl rfl rfl rfl sz2 rfl rfl rfl rfl ?_
         intro u81 hS9 hm9 Qn
         replace Q2 := Qn
         clear Qn
         replace Q1 := hS9.other _ _ ne_k1_k2 Q1
         replace hC := si_mk hC hm9 hB2
         replace M := hS9.mo _ N_k2 M
         clear hS9 hm9
         refine w_nil (xn_then (w_reg ?_))
         refine wl_mv (.tmp 14) (.string u) (fun _ => rfl) g14 rfl ?_
         refine wl_mv (.tmp 17) (.int .i64 ((i : Nat) : Int)) (fun _ => rfl) g17 rfl ?_
         refine wl_val (.string (u.extract i u.size)) (slb_lo _ _ _ u i (by exact rfl) (by exact rfl) hi _ _ _ _ _ _) rfl ?_
         refine wl_m (.tmp 94) (.string (u.extract i u.size)) ?_
         refine w_nil (xn_blk (xn_then (w_reg ?_)))
         refine wl_mv (.tmp 13) (.int .i64 ((k : Nat) : Int)) (fun _ => rfl) g13 rfl ?_
         refine wl_b .add 3 (.tmp 38) (.const (.int .i64 (1))) (.int .i64 ((k : Nat) : Int)) (.int .i64 (1)) (.int .i64 ((k + 1 : Nat) : Int)) (add1r (k := k) (by omega) _ _ _) ?_
         refine wl_m (.tmp 39) (.int .i64 ((k + 1 : Nat) : Int)) ?_
         refine w_nil ?_
         have hcc : dgC u i n = false := by unfold dgC; simp; omega
         have hdr : dgR u = (n, i) := hdg.symm.trans (dg_stop hcc)
         exact xn_loop ((chn L z).length - (k + 1)) (by omega) ⟨k + 1, (⟨r1.s, r1.a, n, r1.c⟩ : Ro), u.extract i u.size, rfl, by omega, g0, rfl, g6, g9, g10, rfl, Q1, Q2, hC, Nat.le_trans (ex_sz _ _ _) hus, (by rw [← hmt, mt_on hzk hbg, hdr]; simp [putK, hf64p]), M⟩
        | false =>
         have hf64p := of_decide_eq_false hf64
         refine wl_bin (fun x y => Instr.indexAt 23 x y) (.tmp 90) (.tmp 88) (pt k2 1) (.int .i64 ((k : Nat) : Int)) (pt k2 3) (fun _ => rfl) rfl rfl (by rw [show k = 2 by omega]; kernel_rfl) rfl ?_
         refine wl_stm1 2 (.tmp 91) (.tmp 89) k2 3 (.int .i64 (n)) (r1.cells) [.int .i64 r1.s, .int .i64 r1.a, .int .i64 r1.b, .int .i64 (n)] Q2 rfl rfl rfl rfl rfl sz2 rfl rfl rfl rfl ?_
         intro u81 hS9 hm9 Qn
         replace Q2 := Qn
         clear Qn
         replace Q1 := hS9.other _ _ ne_k1_k2 Q1
         replace hC := si_mk hC hm9 hB2
         replace M := hS9.mo _ N_k2 M
         clear hS9 hm9
         refine w_nil (xn_then (w_reg ?_))
         refine wl_mv (.tmp 14) (.string u) (fun _ => rfl) g14 rfl ?_
         refine wl_mv (.tmp 17) (.int .i64 ((i : Nat) : Int)) (fun _ => rfl) g17 rfl ?_
         refine wl_val (.string (u.extract i u.size)) (slb_lo _ _ _ u i (by exact rfl) (by exact rfl) hi _ _ _ _ _ _) rfl ?_
         refine wl_m (.tmp 94) (.string (u.extract i u.size)) ?_
         refine w_nil (xn_blk (xn_then (w_reg ?_)))
         refine wl_mv (.tmp 13) (.int .i64 ((k : Nat) : Int)) (fun _ => rfl) g13 rfl ?_
         refine wl_b .add 3 (.tmp 38) (.const (.int .i64 (1))) (.int .i64 ((k : Nat) : Int)) (.int .i64 (1)) (.int .i64 ((k + 1 : Nat) : Int)) (add1r (k := k) (by omega) _ _ _) ?_
         refine wl_m (.tmp 39) (.int .i64 ((k + 1 : Nat) : Int)) ?_
         refine w_nil ?_
         have hcc : dgC u i n = false := by unfold dgC; simp; omega
         have hdr : dgR u = (n, i) := hdg.symm.trans (dg_stop hcc)
         exact xn_loop ((chn L z).length - (k + 1)) (by omega) ⟨k + 1, (⟨r1.s, r1.a, r1.b, n⟩ : Ro), u.extract i u.size, rfl, by omega, g0, rfl, g6, g9, g10, rfl, Q1, Q2, hC, Nat.le_trans (ex_sz _ _ _) hus, (by rw [← hmt, mt_on hzk hbg, hdr]; simp [putK, hf63p, hf64p]), M⟩
     | false =>
      have hf61p := of_decide_eq_false hf61
      refine wl_b .geq 5 (.tmp 65) (.const (.int .u8 (48))) (.int .u8 (bt u i)) (.int .u8 (48)) (.bool false) (ge5 hf61 _ _ _) ?_
      refine wl_pick (.tmp 62) (.tmp 66) (.const (.bool false)) true (.bool false) (fun _ => rfl) rfl rfl rfl ?_
      refine wl_m (.tmp 67) (.bool false) ?_
      refine wl_skip rfl (wl_skip rfl (wl_skip rfl (wl_skip rfl ?_)))
      refine wl_pick (.tmp 68) (.tmp 72) (.const (.bool false)) false (.bool false) (fun _ => rfl) rfl rfl rfl ?_
      refine wl_m (.tmp 73) (.bool false) ?_
      refine wl_skip rfl (wl_skip rfl ?_)
      refine wl_pick (.tmp 74) (.tmp 76) (.const (.bool false)) false (.bool false) (fun _ => rfl) rfl rfl rfl ?_
      refine w_nil (xn_then (w_condF rfl (w_exit (xx_then (xx_then (xx_blk (xn_then (w_seq (w_reg ?_)))))))))
      refine wl_mv (.tmp 13) (.int .i64 ((k : Nat) : Int)) (fun _ => rfl) g13 rfl ?_
      refine wl_mv (.tmp 16) (.int .i64 (n)) (fun _ => rfl) g16 rfl ?_
      refine wl_un (fun v => Instr.fieldAt 25 v 1) (.tmp 9) (pt k2 0) (pt k2 1) (fun _ => rfl) g9 (by kernel_rfl) rfl ?_
      cases hf62 : decide (k = 0) with
      | true =>
       have hf62p := of_decide_eq_true hf62
       refine wl_bin (fun x y => Instr.indexAt 23 x y) (.tmp 90) (.tmp 88) (pt k2 1) (.int .i64 ((k : Nat) : Int)) (pt k2 1) (fun _ => rfl) rfl rfl (by rw [show k = 0 by omega]; kernel_rfl) rfl ?_
       refine wl_stm1 2 (.tmp 91) (.tmp 89) k2 1 (.int .i64 (n)) (r1.cells) [.int .i64 r1.s, .int .i64 (n), .int .i64 r1.b, .int .i64 r1.c] Q2 rfl rfl rfl rfl rfl sz2 rfl rfl rfl rfl ?_
       intro u81 hS9 hm9 Qn
       replace Q2 := Qn
       clear Qn
       replace Q1 := hS9.other _ _ ne_k1_k2 Q1
       replace hC := si_mk hC hm9 hB2
       replace M := hS9.mo _ N_k2 M
       clear hS9 hm9
       refine w_nil (xn_then (w_reg ?_))
       refine wl_mv (.tmp 14) (.string u) (fun _ => rfl) g14 rfl ?_
       refine wl_mv (.tmp 17) (.int .i64 ((i : Nat) : Int)) (fun _ => rfl) g17 rfl ?_
       refine wl_val (.string (u.extract i u.size)) (slb_lo _ _ _ u i (by exact rfl) (by exact rfl) hi _ _ _ _ _ _) rfl ?_
       refine wl_m (.tmp 94) (.string (u.extract i u.size)) ?_
       refine w_nil (xn_blk (xn_then (w_reg ?_)))
       refine wl_mv (.tmp 13) (.int .i64 ((k : Nat) : Int)) (fun _ => rfl) g13 rfl ?_
       refine wl_b .add 3 (.tmp 38) (.const (.int .i64 (1))) (.int .i64 ((k : Nat) : Int)) (.int .i64 (1)) (.int .i64 ((k + 1 : Nat) : Int)) (add1r (k := k) (by omega) _ _ _) ?_
       refine wl_m (.tmp 39) (.int .i64 ((k + 1 : Nat) : Int)) ?_
       refine w_nil ?_
       have hcc : dgC u i n = false := by unfold dgC; simp; omega
       have hdr : dgR u = (n, i) := hdg.symm.trans (dg_stop hcc)
       exact xn_loop ((chn L z).length - (k + 1)) (by omega) ⟨k + 1, (⟨r1.s, n, r1.b, r1.c⟩ : Ro), u.extract i u.size, rfl, by omega, g0, rfl, g6, g9, g10, rfl, Q1, Q2, hC, Nat.le_trans (ex_sz _ _ _) hus, (by rw [← hmt, mt_on hzk hbg, hdr]; simp [putK, hf62p]), M⟩
      | false =>
       have hf62p := of_decide_eq_false hf62
       cases hf63 : decide (k = 1) with
       | true =>
        have hf63p := of_decide_eq_true hf63
        refine wl_bin (fun x y => Instr.indexAt 23 x y) (.tmp 90) (.tmp 88) (pt k2 1) (.int .i64 ((k : Nat) : Int)) (pt k2 2) (fun _ => rfl) rfl rfl (by rw [show k = 1 by omega]; kernel_rfl) rfl ?_
        refine wl_stm1 2 (.tmp 91) (.tmp 89) k2 2 (.int .i64 (n)) (r1.cells) [.int .i64 r1.s, .int .i64 r1.a, .int .i64 (n), .int .i64 r1.c] Q2 rfl rfl rfl rfl rfl sz2 rfl rfl rfl rfl ?_
        intro u81 hS9 hm9 Qn
        replace Q2 := Qn
        clear Qn
        replace Q1 := hS9.other _ _ ne_k1_k2 Q1
        replace hC := si_mk hC hm9 hB2
        replace M := hS9.mo _ N_k2 M
        clear hS9 hm9
        refine w_nil (xn_then (w_reg ?_))
        refine wl_mv (.tmp 14) (.string u) (fun _ => rfl) g14 rfl ?_
        refine wl_mv (.tmp 17) (.int .i64 ((i : Nat) : Int)) (fun _ => rfl) g17 rfl ?_
        refine wl_val (.string (u.extract i u.size)) (slb_lo _ _ _ u i (by exact rfl) (by exact rfl) hi _ _ _ _ _ _) rfl ?_
        refine wl_m (.tmp 94) (.string (u.extract i u.size)) ?_
        refine w_nil (xn_blk (xn_then (w_reg ?_)))
        refine wl_mv (.tmp 13) (.int .i64 ((k : Nat) : Int)) (fun _ => rfl) g13 rfl ?_
        refine wl_b .add 3 (.tmp 38) (.const (.int .i64 (1))) (.int .i64 ((k : Nat) : Int)) (.int .i64 (1)) (.int .i64 ((k + 1 : Nat) : Int)) (add1r (k := k) (by omega) _ _ _) ?_
        refine wl_m (.tmp 39) (.int .i64 ((k + 1 : Nat) : Int)) ?_
        refine w_nil ?_
        have hcc : dgC u i n = false := by unfold dgC; simp; omega
        have hdr : dgR u = (n, i) := hdg.symm.trans (dg_stop hcc)
        exact xn_loop ((chn L z).length - (k + 1)) (by omega) ⟨k + 1, (⟨r1.s, r1.a, n, r1.c⟩ : Ro), u.extract i u.size, rfl, by omega, g0, rfl, g6, g9, g10, rfl, Q1, Q2, hC, Nat.le_trans (ex_sz _ _ _) hus, (by rw [← hmt, mt_on hzk hbg, hdr]; simp [putK, hf63p]), M⟩
       | false =>
        have hf63p := of_decide_eq_false hf63
        refine wl_bin (fun x y => Instr.indexAt 23 x y) (.tmp 90) (.tmp 88) (pt k2 1) (.int .i64 ((k : Nat) : Int)) (pt k2 3) (fun _ => rfl) rfl rfl (by rw [show k = 2 by omega]; kernel_rfl) rfl ?_
        refine wl_stm1 2 (.tmp 91) (.tmp 89) k2 3 (.int .i64 (n)) (r1.cells) [.int .i64 r1.s, .int .i64 r1.a, .int .i64 r1.b, .int .i64 (n)] Q2 rfl rfl rfl rfl rfl sz2 rfl rfl rfl rfl ?_
        intro u81 hS9 hm9 Qn
        replace Q2 := Qn
        clear Qn
        replace Q1 := hS9.other _ _ ne_k1_k2 Q1
        replace hC := si_mk hC hm9 hB2
        replace M := hS9.mo _ N_k2 M
        clear hS9 hm9
        refine w_nil (xn_then (w_reg ?_))
        refine wl_mv (.tmp 14) (.string u) (fun _ => rfl) g14 rfl ?_
        refine wl_mv (.tmp 17) (.int .i64 ((i : Nat) : Int)) (fun _ => rfl) g17 rfl ?_
        refine wl_val (.string (u.extract i u.size)) (slb_lo _ _ _ u i (by exact rfl) (by exact rfl) hi _ _ _ _ _ _) rfl ?_
        refine wl_m (.tmp 94) (.string (u.extract i u.size)) ?_
        refine w_nil (xn_blk (xn_then (w_reg ?_)))
        refine wl_mv (.tmp 13) (.int .i64 ((k : Nat) : Int)) (fun _ => rfl) g13 rfl ?_
        refine wl_b .add 3 (.tmp 38) (.const (.int .i64 (1))) (.int .i64 ((k : Nat) : Int)) (.int .i64 (1)) (.int .i64 ((k + 1 : Nat) : Int)) (add1r (k := k) (by omega) _ _ _) ?_
        refine wl_m (.tmp 39) (.int .i64 ((k + 1 : Nat) : Int)) ?_
        refine w_nil ?_
        have hcc : dgC u i n = false := by unfold dgC; simp; omega
        have hdr : dgR u = (n, i) := hdg.symm.trans (dg_stop hcc)
        exact xn_loop ((chn L z).length - (k + 1)) (by omega) ⟨k + 1, (⟨r1.s, r1.a, r1.b, n⟩ : Ro), u.extract i u.size, rfl, by omega, g0, rfl, g6, g9, g10, rfl, Q1, Q2, hC, Nat.le_trans (ex_sz _ _ _) hus, (by rw [← hmt, mt_on hzk hbg, hdr]; simp [putK, hf62p, hf63p]), M⟩
    | false =>
     have hf60p := of_decide_eq_false hf60
     refine wl_b .lss 3 (.tmp 58) (.tmp 60) (.int .i64 ((i : Nat) : Int)) (.int .i64 ((u.size : Nat) : Int)) (.bool false) (ltN hf60 _ _ _) ?_
     refine wl_m (.tmp 61) (.bool false) ?_
     refine wl_skip rfl (wl_skip rfl (wl_skip rfl (wl_skip rfl ?_)))
     refine wl_pick (.tmp 62) (.tmp 66) (.const (.bool false)) false (.bool false) (fun _ => rfl) rfl rfl rfl ?_
     refine wl_m (.tmp 67) (.bool false) ?_
     refine wl_skip rfl (wl_skip rfl (wl_skip rfl (wl_skip rfl ?_)))
     refine wl_pick (.tmp 68) (.tmp 72) (.const (.bool false)) false (.bool false) (fun _ => rfl) rfl rfl rfl ?_
     refine wl_m (.tmp 73) (.bool false) ?_
     refine wl_skip rfl (wl_skip rfl ?_)
     refine wl_pick (.tmp 74) (.tmp 76) (.const (.bool false)) false (.bool false) (fun _ => rfl) rfl rfl rfl ?_
     refine w_nil (xn_then (w_condF rfl (w_exit (xx_then (xx_then (xx_blk (xn_then (w_seq (w_reg ?_)))))))))
     refine wl_mv (.tmp 13) (.int .i64 ((k : Nat) : Int)) (fun _ => rfl) g13 rfl ?_
     refine wl_mv (.tmp 16) (.int .i64 (n)) (fun _ => rfl) g16 rfl ?_
     refine wl_un (fun v => Instr.fieldAt 25 v 1) (.tmp 9) (pt k2 0) (pt k2 1) (fun _ => rfl) g9 (by kernel_rfl) rfl ?_
     cases hf61 : decide (k = 0) with
     | true =>
      have hf61p := of_decide_eq_true hf61
      refine wl_bin (fun x y => Instr.indexAt 23 x y) (.tmp 90) (.tmp 88) (pt k2 1) (.int .i64 ((k : Nat) : Int)) (pt k2 1) (fun _ => rfl) rfl rfl (by rw [show k = 0 by omega]; kernel_rfl) rfl ?_
      refine wl_stm1 2 (.tmp 91) (.tmp 89) k2 1 (.int .i64 (n)) (r1.cells) [.int .i64 r1.s, .int .i64 (n), .int .i64 r1.b, .int .i64 r1.c] Q2 rfl rfl rfl rfl rfl sz2 rfl rfl rfl rfl ?_
      intro u81 hS9 hm9 Qn
      replace Q2 := Qn
      clear Qn
      replace Q1 := hS9.other _ _ ne_k1_k2 Q1
      replace hC := si_mk hC hm9 hB2
      replace M := hS9.mo _ N_k2 M
      clear hS9 hm9
      refine w_nil (xn_then (w_reg ?_))
      refine wl_mv (.tmp 14) (.string u) (fun _ => rfl) g14 rfl ?_
      refine wl_mv (.tmp 17) (.int .i64 ((i : Nat) : Int)) (fun _ => rfl) g17 rfl ?_
      refine wl_val (.string (u.extract i u.size)) (slb_lo _ _ _ u i (by exact rfl) (by exact rfl) hi _ _ _ _ _ _) rfl ?_
      refine wl_m (.tmp 94) (.string (u.extract i u.size)) ?_
      refine w_nil (xn_blk (xn_then (w_reg ?_)))
      refine wl_mv (.tmp 13) (.int .i64 ((k : Nat) : Int)) (fun _ => rfl) g13 rfl ?_
      refine wl_b .add 3 (.tmp 38) (.const (.int .i64 (1))) (.int .i64 ((k : Nat) : Int)) (.int .i64 (1)) (.int .i64 ((k + 1 : Nat) : Int)) (add1r (k := k) (by omega) _ _ _) ?_
      refine wl_m (.tmp 39) (.int .i64 ((k + 1 : Nat) : Int)) ?_
      refine w_nil ?_
      have hcc : dgC u i n = false := by unfold dgC; simp; omega
      have hdr : dgR u = (n, i) := hdg.symm.trans (dg_stop hcc)
      exact xn_loop ((chn L z).length - (k + 1)) (by omega) ⟨k + 1, (⟨r1.s, n, r1.b, r1.c⟩ : Ro), u.extract i u.size, rfl, by omega, g0, rfl, g6, g9, g10, rfl, Q1, Q2, hC, Nat.le_trans (ex_sz _ _ _) hus, (by rw [← hmt, mt_on hzk hbg, hdr]; simp [putK, hf61p]), M⟩
     | false =>
      have hf61p := of_decide_eq_false hf61
      cases hf62 : decide (k = 1) with
      | true =>
       have hf62p := of_decide_eq_true hf62
       refine wl_bin (fun x y => Instr.indexAt 23 x y) (.tmp 90) (.tmp 88) (pt k2 1) (.int .i64 ((k : Nat) : Int)) (pt k2 2) (fun _ => rfl) rfl rfl (by rw [show k = 1 by omega]; kernel_rfl) rfl ?_
       refine wl_stm1 2 (.tmp 91) (.tmp 89) k2 2 (.int .i64 (n)) (r1.cells) [.int .i64 r1.s, .int .i64 r1.a, .int .i64 (n), .int .i64 r1.c] Q2 rfl rfl rfl rfl rfl sz2 rfl rfl rfl rfl ?_
       intro u81 hS9 hm9 Qn
       replace Q2 := Qn
       clear Qn
       replace Q1 := hS9.other _ _ ne_k1_k2 Q1
       replace hC := si_mk hC hm9 hB2
       replace M := hS9.mo _ N_k2 M
       clear hS9 hm9
       refine w_nil (xn_then (w_reg ?_))
       refine wl_mv (.tmp 14) (.string u) (fun _ => rfl) g14 rfl ?_
       refine wl_mv (.tmp 17) (.int .i64 ((i : Nat) : Int)) (fun _ => rfl) g17 rfl ?_
       refine wl_val (.string (u.extract i u.size)) (slb_lo _ _ _ u i (by exact rfl) (by exact rfl) hi _ _ _ _ _ _) rfl ?_
       refine wl_m (.tmp 94) (.string (u.extract i u.size)) ?_
       refine w_nil (xn_blk (xn_then (w_reg ?_)))
       refine wl_mv (.tmp 13) (.int .i64 ((k : Nat) : Int)) (fun _ => rfl) g13 rfl ?_
       refine wl_b .add 3 (.tmp 38) (.const (.int .i64 (1))) (.int .i64 ((k : Nat) : Int)) (.int .i64 (1)) (.int .i64 ((k + 1 : Nat) : Int)) (add1r (k := k) (by omega) _ _ _) ?_
       refine wl_m (.tmp 39) (.int .i64 ((k + 1 : Nat) : Int)) ?_
       refine w_nil ?_
       have hcc : dgC u i n = false := by unfold dgC; simp; omega
       have hdr : dgR u = (n, i) := hdg.symm.trans (dg_stop hcc)
       exact xn_loop ((chn L z).length - (k + 1)) (by omega) ⟨k + 1, (⟨r1.s, r1.a, n, r1.c⟩ : Ro), u.extract i u.size, rfl, by omega, g0, rfl, g6, g9, g10, rfl, Q1, Q2, hC, Nat.le_trans (ex_sz _ _ _) hus, (by rw [← hmt, mt_on hzk hbg, hdr]; simp [putK, hf62p]), M⟩
      | false =>
       have hf62p := of_decide_eq_false hf62
       refine wl_bin (fun x y => Instr.indexAt 23 x y) (.tmp 90) (.tmp 88) (pt k2 1) (.int .i64 ((k : Nat) : Int)) (pt k2 3) (fun _ => rfl) rfl rfl (by rw [show k = 2 by omega]; kernel_rfl) rfl ?_
       refine wl_stm1 2 (.tmp 91) (.tmp 89) k2 3 (.int .i64 (n)) (r1.cells) [.int .i64 r1.s, .int .i64 r1.a, .int .i64 r1.b, .int .i64 (n)] Q2 rfl rfl rfl rfl rfl sz2 rfl rfl rfl rfl ?_
       intro u81 hS9 hm9 Qn
       replace Q2 := Qn
       clear Qn
       replace Q1 := hS9.other _ _ ne_k1_k2 Q1
       replace hC := si_mk hC hm9 hB2
       replace M := hS9.mo _ N_k2 M
       clear hS9 hm9
       refine w_nil (xn_then (w_reg ?_))
       refine wl_mv (.tmp 14) (.string u) (fun _ => rfl) g14 rfl ?_
       refine wl_mv (.tmp 17) (.int .i64 ((i : Nat) : Int)) (fun _ => rfl) g17 rfl ?_
       refine wl_val (.string (u.extract i u.size)) (slb_lo _ _ _ u i (by exact rfl) (by exact rfl) hi _ _ _ _ _ _) rfl ?_
       refine wl_m (.tmp 94) (.string (u.extract i u.size)) ?_
       refine w_nil (xn_blk (xn_then (w_reg ?_)))
       refine wl_mv (.tmp 13) (.int .i64 ((k : Nat) : Int)) (fun _ => rfl) g13 rfl ?_
       refine wl_b .add 3 (.tmp 38) (.const (.int .i64 (1))) (.int .i64 ((k : Nat) : Int)) (.int .i64 (1)) (.int .i64 ((k + 1 : Nat) : Int)) (add1r (k := k) (by omega) _ _ _) ?_
       refine wl_m (.tmp 39) (.int .i64 ((k + 1 : Nat) : Int)) ?_
       refine w_nil ?_
       have hcc : dgC u i n = false := by unfold dgC; simp; omega
       have hdr : dgR u = (n, i) := hdg.symm.trans (dg_stop hcc)
       exact xn_loop ((chn L z).length - (k + 1)) (by omega) ⟨k + 1, (⟨r1.s, r1.a, r1.b, n⟩ : Ro), u.extract i u.size, rfl, by omega, g0, rfl, g6, g9, g10, rfl, Q1, Q2, hC, Nat.le_trans (ex_sz _ _ _) hus, (by rw [← hmt, mt_on hzk hbg, hdr]; simp [putK, hf61p, hf62p]), M⟩
  ·skip
   have hkd : decide (k < (chn L z).length) = false := decide_eq_false hkl
   refine w_seq (w_seq (w_reg ?_))
   refine wl_mv (.tmp 13) (.int .i64 ((k : Nat) : Int)) (fun _ => rfl) e13 rfl ?_
   refine wl_mv (.tmp 10) (.slice pc (chn L z).length cc) (fun _ => rfl) e10 rfl ?_
   refine wl_val (.int .i64 (((chn L z).length : Nat) : Int)) (len105 _ _ _ _ _ (by exact rfl) _ _ _ _ _ _) rfl ?_
   refine wl_b .lss 3 (.tmp 34) (.tmp 36) (.int .i64 ((k : Nat) : Int)) (.int .i64 (((chn L z).length : Nat) : Int)) (.bool false) (ltN hkd _ _ _) ?_
   refine w_nil (xn_then (w_condF rfl (w_exit (xx_then (xx_then (xx_blk (xn_then (w_seq (w_reg ?_)))))))))
   refine wl_load 25 (.tmp 9) (pt k2 0) (.agg (r1.cells).toArray) rfl e9 (run_row Q2 25 0 4 (r1.cells) rfl Tryd.underlying25 rfl sz25) rfl ?_
   refine wl_mv (.tmp 2) (.string s1) (fun _ => rfl) e2 rfl ?_
   refine wl_st 25 (.tmp 6) (.tmp 95) k1 0 ((r1.cells).toArray) _ (r1.cells) Q1 rfl rfl e6 rfl rfl sz25 rfl rfl rfl ?_
   intro u41 hS Qn
   replace Q1 := Qn
   clear Qn
   replace Q2 := hS.other _ _ ne_k1_k2.symm Q2
   replace M := hS.mo _ N_k1 M
   clear hS
   refine wl_m (.tmp 96) (.string s1) ?_
   refine wl_m (.const (.bool true)) (.bool true) ?_
   refine w_nil (xn_then (w_ret ?_))
   exact w_ret3 _ _ _ (.agg (r1.cells).toArray) (.string s1) (.bool true) rfl ⟨k1, e6, (run_row Q1 25 0 4 (r1.cells) rfl Tryd.underlying25 rfl sz25)⟩ rfl rfl ⟨mtP_some (by rw [← hmt, List.drop_of_length_le (by omega)]; rfl), M⟩
end Go.Proofs.YtnffhcjmpjajlaaDoor

namespace Go.Proofs.YtnffhcjmpjajlaaDoor
open Go.RowKit D
theorem eq5 {a b : Int} {r : Bool} (h : decide (a = b) = r) (x y : Operand) (w : World) : (do eqGuard .eql 5 x y (.int .u8 a) (.int .u8 b); binOp .eql 5 (.int .u8 a) (.int .u8 b)).run Tryd.prog w = .ok (.bool r) w := by subst h; by_cases e : a = b <;> simp [go_sem, e]
theorem idx_0 {s : ByteArray} (h : 0 < s.size) (w : World) : (Instr.index 9 (.string s) (.int .i64 0)).run Tryd.prog w = .ok (.int .u8 (bt s 0)) w := idx_b h w
theorem sz_pos {u : ByteArray} (h : ¬ u = ⟨#[]⟩) : 0 < u.size := by
 rcases Nat.eq_zero_or_pos u.size with e | e
 ·exact absurd (ByteArray.ext (Array.eq_empty_of_size_eq_zero e)) h
 ·exact e
theorem bg_l {s h : ByteArray} (e : ¬ h.size ≤ s.size) : bgB s h = false := by unfold bgB bgn; rw [if_pos (by omega)]; rfl
theorem bg_e {s h : ByteArray} (e : h.size ≤ s.size) : bgB s h = decide (s.extract 0 h.size = h) := by
 unfold bgB bgn
 rw [if_neg (by omega)]
 by_cases q : s.extract 0 h.size = h <;> simp [q]
theorem hpx_n {s h : ByteArray} (w : World) : Calls Tryd.prog 71 #[.string s, .string h] w fun e9 w' => e9 = .returned (.bool (bgB s h)) ∧ Mo w w' := by
 refine w_enter 18 Tryd.func71 Tryd.ntmps71 rfl rfl ?_
 have M : Mo w w := Mo.refl _
 refine w_seq (w_reg ?_)
 refine wl_m (.const (.bool false)) (.bool false) ?_
 refine w_nil (xn_then (w_seq (w_reg ?_)))
 refine wl_m (.tmp 0) (.string s) ?_
 refine wl_val (.int .i64 ((s.size : Nat) : Int)) (len_s _ _ _ (by exact rfl) _ _ _ _ _ _) rfl ?_
 refine wl_m (.tmp 1) (.string h) ?_
 refine wl_val (.int .i64 ((h.size : Nat) : Int)) (len_s _ _ _ (by exact rfl) _ _ _ _ _ _) rfl ?_
 cases hf0 : decide (((h.size : Nat) : Int) ≤ ((s.size : Nat) : Int)) with
 | true =>
  have hf0p := of_decide_eq_true hf0
  refine wl_b .geq 3 (.tmp 6) (.tmp 8) (.int .i64 ((s.size : Nat) : Int)) (.int .i64 ((h.size : Nat) : Int)) (.bool true) (ge3 hf0 _ _ _) ?_
  refine wl_m (.tmp 9) (.bool true) ?_
  refine wl_m (.tmp 0) (.string s) ?_
  refine wl_m (.tmp 1) (.string h) ?_
  refine wl_val (.int .i64 ((h.size : Nat) : Int)) (len_s _ _ _ (by exact rfl) _ _ _ _ _ _) rfl ?_
  refine wl_val (.string (s.extract 0 h.size)) (slb_hi _ _ _ s h.size (by exact rfl) (by exact rfl) (by omega) _ _ _ _ _ _) rfl ?_
  refine wl_m (.tmp 1) (.string h) ?_
  cases hf1 : decide (s.extract 0 h.size = h) with
  | true =>
   have hf1p := of_decide_eq_true hf1
   refine wl_b .eql 9 (.tmp 14) (.tmp 15) (.string (s.extract 0 h.size)) (.string h) (.bool true) (s9 hf1 _ _ _) ?_
   refine wl_pick (.tmp 10) (.tmp 16) (.const (.bool false)) true (.bool true) (fun _ => rfl) rfl rfl rfl ?_
   refine wl_m (.tmp 17) (.bool true) ?_
   refine w_nil (xn_then (w_ret ?_))
   exact w_ret1 _ (.bool true) rfl rfl ⟨congrArg (fun v => Ending.returned (.bool v)) (by rw [bg_e (show h.size ≤ s.size by omega), hf1]), M⟩
  | false =>
   have hf1p := of_decide_eq_false hf1
   refine wl_b .eql 9 (.tmp 14) (.tmp 15) (.string (s.extract 0 h.size)) (.string h) (.bool false) (s9 hf1 _ _ _) ?_
   refine wl_pick (.tmp 10) (.tmp 16) (.const (.bool false)) true (.bool false) (fun _ => rfl) rfl rfl rfl ?_
   refine wl_m (.tmp 17) (.bool false) ?_
   refine w_nil (xn_then (w_ret ?_))
   exact w_ret1 _ (.bool false) rfl rfl ⟨congrArg (fun v => Ending.returned (.bool v)) (by rw [bg_e (show h.size ≤ s.size by omega), hf1]), M⟩
 | false =>
  have hf0p := of_decide_eq_false hf0
  refine wl_b .geq 3 (.tmp 6) (.tmp 8) (.int .i64 ((s.size : Nat) : Int)) (.int .i64 ((h.size : Nat) : Int)) (.bool false) (ge3 hf0 _ _ _) ?_
  refine wl_m (.tmp 9) (.bool false) ?_
  refine wl_skip rfl (wl_skip rfl (wl_skip rfl (wl_skip rfl (wl_skip rfl (wl_skip rfl ?_)))))
  refine wl_pick (.tmp 10) (.tmp 16) (.const (.bool false)) false (.bool false) (fun _ => rfl) rfl rfl rfl ?_
  refine wl_m (.tmp 17) (.bool false) ?_
  refine w_nil (xn_then (w_ret ?_))
  exact w_ret1 _ (.bool false) rfl rfl ⟨congrArg (fun v => Ending.returned (.bool v)) (bg_l (show ¬ h.size ≤ s.size by omega)).symm, M⟩
theorem bg_at {s h : ByteArray} (e : bgB s h = true) : h.size ≤ s.size ∧ bgn s h = some (s.extract h.size s.size) := by
 have q := bgB_t e
 unfold bgn at q ⊢
 split at q
 ·cases q
 ·rename_i h1
  split at q
  next h2 => rw [if_neg h1, if_pos h2]; exact ⟨by omega, rfl⟩
  next => cases q
theorem scp_n {s h : ByteArray} (w : World) : Calls Tryd.prog 56 #[.string s, .string h] w fun e9 w' => e9 = .returned (.tuple #[.string ((bgn s h).getD s), .bool (bgB s h)]) ∧ Mo w w' := by
 refine w_enter 15 Tryd.func56 Tryd.ntmps56 rfl rfl ?_
 have M : Mo w w := Mo.refl _
 refine w_seq (w_reg ?_)
 refine wl_m (.const (.string ⟨#[]⟩)) (.string ⟨#[]⟩) ?_
 refine wl_m (.const (.bool false)) (.bool false) ?_
 refine w_nil (xn_then (w_seq (w_seq (w_reg ?_))))
 refine wl_m (.tmp 0) (.string s) ?_
 refine wl_m (.tmp 1) (.string h) ?_
 cases hf0 : bgB s h with
 | true =>
  refine wl_call 71 [(.tmp 6), (.tmp 7)] _ [.string s, .string h] (.bool true) rfl rfl (fun _ _ => by kernel_rfl) (cB hf0 (hpx_n _)) rfl ?_
  intro u1 hq
  replace M := M.trans hq
  clear hq
  refine wl_un (fun v => Op.unary .not v) (.tmp 8) (.bool true) (.bool false) (fun _ => rfl) rfl (by kernel_rfl) rfl ?_
  refine w_nil (xn_then (w_condF rfl (w_skip (xn_then (w_seq ?_)))))
  have hbg := bg_at hf0
  have hb1 := hbg.1
  refine w_reg ?_
  refine wl_m (.tmp 0) (.string s) ?_
  refine wl_m (.tmp 1) (.string h) ?_
  refine wl_val (.int .i64 ((h.size : Nat) : Int)) (len_s _ _ _ (by exact rfl) _ _ _ _ _ _) rfl ?_
  refine wl_val (.string (s.extract h.size s.size)) (slb_lo _ _ _ s h.size (by exact rfl) (by exact rfl) (by omega) _ _ _ _ _ _) rfl ?_
  refine wl_m (.tmp 14) (.string (s.extract h.size s.size)) ?_
  refine wl_m (.const (.bool true)) (.bool true) ?_
  refine w_nil (xn_then (w_ret ?_))
  exact w_ret2 _ _ (.string (s.extract h.size s.size)) (.bool true) rfl rfl rfl ⟨by rw [hbg.2]; rfl, M⟩
 | false =>
  refine wl_call 71 [(.tmp 6), (.tmp 7)] _ [.string s, .string h] (.bool false) rfl rfl (fun _ _ => by kernel_rfl) (cB hf0 (hpx_n _)) rfl ?_
  intro u1 hq
  replace M := M.trans hq
  clear hq
  refine wl_un (fun v => Op.unary .not v) (.tmp 8) (.bool false) (.bool true) (fun _ => rfl) rfl (by kernel_rfl) rfl ?_
  refine w_nil (xn_then (w_condT rfl (w_seq (w_reg ?_))))
  refine wl_m (.tmp 0) (.string s) ?_
  refine wl_m (.tmp 10) (.string s) ?_
  refine wl_m (.const (.bool false)) (.bool false) ?_
  refine w_nil (xn_then (w_ret (xr_then ?_)))
  exact w_ret2 _ _ (.string s) (.bool false) rfl rfl rfl ⟨by rw [bgB_f hf0]; rfl, M⟩
theorem cpx_n {s h : ByteArray} (w : World) : Calls Tryd.prog 38 #[.string s, .string h] w fun e9 w' => e9 = .returned (.tuple #[.string ((bgn s h).getD s), .bool (bgB s h)]) ∧ Mo w w' := by
 refine w_enter 11 Tryd.func38 Tryd.ntmps38 rfl rfl ?_
 have M : Mo w w := Mo.refl _
 refine w_seq (w_reg ?_)
 refine wl_m (.const (.string ⟨#[]⟩)) (.string ⟨#[]⟩) ?_
 refine wl_m (.const (.bool false)) (.bool false) ?_
 refine w_nil (xn_then (w_seq (w_reg ?_)))
 refine wl_m (.tmp 0) (.string s) ?_
 refine wl_m (.tmp 1) (.string h) ?_
 refine wl_call 56 [(.tmp 6), (.tmp 7)] _ [.string s, .string h] (.tuple #[.string ((bgn s h).getD s), .bool ((bgB s h))]) rfl rfl (fun _ _ => by kernel_rfl) (scp_n _) rfl ?_
 intro u1 hq
 replace M := M.trans hq
 clear hq
 refine wl_un (fun v => Instr.extract v 0) (.tmp 8) (.tuple #[.string ((bgn s h).getD s), .bool ((bgB s h))]) (.string ((bgn s h).getD s)) (fun _ => rfl) rfl (by kernel_rfl) rfl ?_
 refine wl_un (fun v => Instr.extract v 1) (.tmp 8) (.tuple #[.string ((bgn s h).getD s), .bool ((bgB s h))]) (.bool ((bgB s h))) (fun _ => rfl) rfl (by kernel_rfl) rfl ?_
 refine wl_m (.tmp 9) (.string ((bgn s h).getD s)) ?_
 refine wl_m (.tmp 10) (.bool ((bgB s h))) ?_
 refine w_nil (xn_then (w_ret ?_))
 exact w_ret2 _ _ (.string ((bgn s h).getD s)) (.bool ((bgB s h))) rfl rfl rfl ⟨rfl, M⟩
def ciN (o : Option (Int × ByteArray)) : Int := (o.map (·.1)).getD 0
def ciS (o : Option (Int × ByteArray)) : ByteArray := (o.map (·.2)).getD ⟨#[]⟩
theorem ci_no {o : Option (Int × ByteArray)} (h : o = none) : Ending.returned (.tuple #[.int .i64 0, .string ⟨#[]⟩, .bool false]) = .returned (.tuple #[.int .i64 (ciN o), .string (ciS o), .bool o.isSome]) := by rw [h]; rfl
theorem ci_yes {o : Option (Int × ByteArray)} {n : Int} {s : ByteArray} (h : o = some (n, s)) : Ending.returned (.tuple #[.int .i64 n, .string s, .bool true]) = .returned (.tuple #[.int .i64 (ciN o), .string (ciS o), .bool o.isSome]) := by rw [h]; rfl
theorem cid_n {u : ByteArray} (w : World) (hu : u.size ≤ 9223372036854775807) : Calls Tryd.prog 70 #[.string u] w fun e9 w' => e9 = .returned (.tuple #[.int .i64 (ciN (cid u)), .string (ciS (cid u)), .bool (cid u).isSome]) ∧ Mo w w' := by
 refine w_enter 51 Tryd.func70 Tryd.ntmps70 rfl rfl ?_
 have M : Mo w w := Mo.refl _
 refine w_seq (w_reg ?_)
 refine wl_m (.const (.int .i64 (0))) (.int .i64 (0)) ?_
 refine wl_m (.const (.string ⟨#[]⟩)) (.string ⟨#[]⟩) ?_
 refine wl_m (.const (.bool false)) (.bool false) ?_
 refine w_nil (xn_then (w_seq (w_seq (w_reg ?_))))
 refine wl_m (.tmp 0) (.string u) ?_
 cases hf0 : decide (u = ⟨#[]⟩) with
 | true =>
  have hf0p := of_decide_eq_true hf0
  refine wl_b .eql 9 (.tmp 7) (.const (.string ⟨#[]⟩)) (.string u) (.string ⟨#[]⟩) (.bool true) (s9 hf0 _ _ _) ?_
  refine wl_m (.tmp 8) (.bool true) ?_
  refine wl_skip rfl (wl_skip rfl (wl_skip rfl ?_))
  refine wl_pick (.tmp 9) (.const (.bool true)) (.tmp 12) true (.bool true) (fun _ => rfl) rfl rfl rfl ?_
  refine w_nil (xn_then (w_condT rfl (w_seq (w_reg ?_))))
  refine wl_m (.const (.int .i64 (0))) (.int .i64 (0)) ?_
  refine wl_m (.const (.string ⟨#[]⟩)) (.string ⟨#[]⟩) ?_
  refine wl_m (.const (.bool false)) (.bool false) ?_
  refine w_nil (xn_then (w_ret (xr_then ?_)))
  exact w_ret3 _ _ _ (.int .i64 (0)) (.string ⟨#[]⟩) (.bool false) rfl rfl rfl rfl ⟨ci_no (by unfold cid; rw [if_pos hf0p]), M⟩
 | false =>
  have hf0p := of_decide_eq_false hf0
  refine wl_b .eql 9 (.tmp 7) (.const (.string ⟨#[]⟩)) (.string u) (.string ⟨#[]⟩) (.bool false) (s9 hf0 _ _ _) ?_
  refine wl_m (.tmp 8) (.bool false) ?_
  refine wl_m (.tmp 0) (.string u) ?_
  refine wl_bin (fun x y => Instr.index 9 x y) (.tmp 10) (.const (.int .i64 (0))) (.string u) (.int .i64 (0)) (.int .u8 (bt u 0)) (fun _ => rfl) rfl rfl (idx_0 (sz_pos hf0p) _) rfl ?_
  cases hf1 : decide (bt u 0 = 48) with
  | true =>
   have hf1p := of_decide_eq_true hf1
   refine wl_b .eql 5 (.tmp 11) (.const (.int .u8 (48))) (.int .u8 (bt u 0)) (.int .u8 (48)) (.bool true) (eq5 hf1 _ _ _) ?_
   refine wl_pick (.tmp 9) (.const (.bool true)) (.tmp 12) false (.bool true) (fun _ => rfl) rfl rfl rfl ?_
   refine w_nil (xn_then (w_condT rfl (w_seq (w_reg ?_))))
   refine wl_m (.const (.int .i64 (0))) (.int .i64 (0)) ?_
   refine wl_m (.const (.string ⟨#[]⟩)) (.string ⟨#[]⟩) ?_
   refine wl_m (.const (.bool false)) (.bool false) ?_
   refine w_nil (xn_then (w_ret (xr_then ?_)))
   exact w_ret3 _ _ _ (.int .i64 (0)) (.string ⟨#[]⟩) (.bool false) rfl rfl rfl rfl ⟨ci_no (by unfold cid; rw [if_neg hf0p, if_pos hf1p]), M⟩
  | false =>
   have hf1p := of_decide_eq_false hf1
   refine wl_b .eql 5 (.tmp 11) (.const (.int .u8 (48))) (.int .u8 (bt u 0)) (.int .u8 (48)) (.bool false) (eq5 hf1 _ _ _) ?_
   refine wl_pick (.tmp 9) (.const (.bool true)) (.tmp 12) false (.bool false) (fun _ => rfl) rfl rfl rfl ?_
   refine w_nil (xn_then (w_condF rfl (w_skip (xn_then (w_seq (w_reg ?_))))))
   refine wl_m (.const (.int .i64 (0))) (.int .i64 (0)) ?_
   refine wl_m (.const (.int .i64 (0))) (.int .i64 (0)) ?_
   refine w_nil (xn_then (w_seq (w_block ?_)))
   refine w_loop (fun m l9 w1 => ∃ (i : Nat) (n : Int), m = u.size - i ∧ i ≤ u.size ∧ look l9 0 = .string u ∧ look l9 5 = .int .i64 (i : Int) ∧ look l9 6 = .int .i64 n ∧ 0 ≤ n ∧ n ≤ 90071992547409930 ∧ dgF u (u.size - i) i n = dgR u ∧ Mo w w1) _ ⟨0, 0, rfl, Nat.zero_le _, rfl, rfl, rfl, by omega, by omega, rfl, M⟩ ?_
   clear M
   rintro m l9 wl ⟨i, n, rfl, hi, e0, e5, e6, hn0, hn1, hdg, M⟩
   have hbb := bt_bd u i
   refine w_seq (w_seq (w_reg ?_))
   refine wl_mv (.tmp 5) (.int .i64 ((i : Nat) : Int)) (fun _ => rfl) e5 rfl ?_
   refine wl_mv (.tmp 0) (.string u) (fun _ => rfl) e0 rfl ?_
   refine wl_val (.int .i64 ((u.size : Nat) : Int)) (len_s _ _ _ (by exact rfl) _ _ _ _ _ _) rfl ?_
   cases hf30 : decide (i < u.size) with
   | true =>
    have hf30p := of_decide_eq_true hf30
    refine wl_b .lss 3 (.tmp 14) (.tmp 16) (.int .i64 ((i : Nat) : Int)) (.int .i64 ((u.size : Nat) : Int)) (.bool true) (ltN hf30 _ _ _) ?_
    refine wl_m (.tmp 17) (.bool true) ?_
    refine wl_mv (.tmp 0) (.string u) (fun _ => rfl) e0 rfl ?_
    refine wl_mv (.tmp 5) (.int .i64 ((i : Nat) : Int)) (fun _ => rfl) e5 rfl ?_
    refine wl_bin (fun x y => Instr.index 9 x y) (.tmp 19) (.tmp 20) (.string u) (.int .i64 ((i : Nat) : Int)) (.int .u8 (bt u i)) (fun _ => rfl) rfl rfl (idx_b (by omega) _) rfl ?_
    cases hf31 : decide (48 ≤ bt u i) with
    | true =>
     have hf31p := of_decide_eq_true hf31
     refine wl_b .geq 5 (.tmp 21) (.const (.int .u8 (48))) (.int .u8 (bt u i)) (.int .u8 (48)) (.bool true) (ge5 hf31 _ _ _) ?_
     refine wl_pick (.tmp 18) (.tmp 22) (.const (.bool false)) true (.bool true) (fun _ => rfl) rfl rfl rfl ?_
     refine wl_m (.tmp 23) (.bool true) ?_
     refine wl_mv (.tmp 0) (.string u) (fun _ => rfl) e0 rfl ?_
     refine wl_mv (.tmp 5) (.int .i64 ((i : Nat) : Int)) (fun _ => rfl) e5 rfl ?_
     refine wl_bin (fun x y => Instr.index 9 x y) (.tmp 25) (.tmp 26) (.string u) (.int .i64 ((i : Nat) : Int)) (.int .u8 (bt u i)) (fun _ => rfl) rfl rfl (idx_b (by omega) _) rfl ?_
     cases hf32 : decide (bt u i ≤ 57) with
     | true =>
      have hf32p := of_decide_eq_true hf32
      refine wl_b .leq 5 (.tmp 27) (.const (.int .u8 (57))) (.int .u8 (bt u i)) (.int .u8 (57)) (.bool true) (le5 hf32 _ _ _) ?_
      refine wl_pick (.tmp 24) (.tmp 28) (.const (.bool false)) true (.bool true) (fun _ => rfl) rfl rfl rfl ?_
      refine wl_m (.tmp 29) (.bool true) ?_
      refine wl_mv (.tmp 6) (.int .i64 (n)) (fun _ => rfl) e6 rfl ?_
      cases hf33 : decide (n ≤ 9007199254740992) with
      | true =>
       have hf33p := of_decide_eq_true hf33
       refine wl_b .leq 2 (.tmp 31) (.const (.int .i64 (9007199254740992))) (.int .i64 (n)) (.int .i64 (9007199254740992)) (.bool true) (le2 hf33 _ _ _) ?_
       refine wl_pick (.tmp 30) (.tmp 32) (.const (.bool false)) true (.bool true) (fun _ => rfl) rfl rfl rfl ?_
       refine w_nil (xn_then (w_condT rfl (w_skip (xn_then (w_block (w_seq (w_reg ?_)))))))
       refine wl_mv (.tmp 6) (.int .i64 (n)) (fun _ => rfl) e6 rfl ?_
       refine wl_b .mul 2 (.const (.int .i64 (10))) (.tmp 34) (.int .i64 (10)) (.int .i64 (n)) (.int .i64 (10 * n)) (mul2 (by omega) (by omega) _ _ _) ?_
       refine wl_mv (.tmp 0) (.string u) (fun _ => rfl) e0 rfl ?_
       refine wl_mv (.tmp 5) (.int .i64 ((i : Nat) : Int)) (fun _ => rfl) e5 rfl ?_
       refine wl_bin (fun x y => Instr.index 9 x y) (.tmp 36) (.tmp 37) (.string u) (.int .i64 ((i : Nat) : Int)) (.int .u8 (bt u i)) (fun _ => rfl) rfl rfl (idx_b (by omega) _) rfl ?_
       refine wl_b .sub 5 (.tmp 38) (.const (.int .u8 (48))) (.int .u8 (bt u i)) (.int .u8 (48)) (.int .u8 (bt u i - 48)) (sub5 (by omega) (by omega) _ _ _) ?_
       refine wl_un (fun v => convert 5 2 v) (.tmp 39) (.int .u8 (bt u i - 48)) (.int .i64 (bt u i - 48)) (fun _ => rfl) rfl (cv52 (by omega) (by omega) _) rfl ?_
       refine wl_b .add 2 (.tmp 35) (.tmp 40) (.int .i64 (10 * n)) (.int .i64 (bt u i - 48)) (.int .i64 (10 * n + (bt u i - 48))) (add2 (by omega) (by omega) _ _ _) ?_
       refine wl_m (.tmp 41) (.int .i64 (10 * n + (bt u i - 48))) ?_
       refine w_nil (xn_then (w_reg ?_))
       refine wl_mv (.tmp 5) (.int .i64 ((i : Nat) : Int)) (fun _ => rfl) e5 rfl ?_
       refine wl_b .add 3 (.tmp 42) (.const (.int .i64 (1))) (.int .i64 ((i : Nat) : Int)) (.int .i64 (1)) (.int .i64 ((i + 1 : Nat) : Int)) (add1r (k := i) (by omega) _ _ _) ?_
       refine wl_m (.tmp 43) (.int .i64 ((i + 1 : Nat) : Int)) ?_
       refine w_nil (xn_blk ?_)
       have hcc : dgC u i n = true := by unfold dgC; simp; omega
       exact xn_loop (u.size - (i + 1)) (by omega) ⟨i + 1, 10 * n + (bt u i - 48), rfl, by omega, e0, rfl, rfl, by omega, by omega, (dg_on hcc).symm.trans hdg, M⟩
      | false =>
       have hf33p := of_decide_eq_false hf33
       refine wl_b .leq 2 (.tmp 31) (.const (.int .i64 (9007199254740992))) (.int .i64 (n)) (.int .i64 (9007199254740992)) (.bool false) (le2 hf33 _ _ _) ?_
       refine wl_pick (.tmp 30) (.tmp 32) (.const (.bool false)) true (.bool false) (fun _ => rfl) rfl rfl rfl ?_
       refine w_nil (xn_then (w_condF rfl (w_exit (xx_then (xx_then (xx_blk (xn_then (w_seq (w_seq ?_)))))))))
       have hcc : dgC u i n = false := by unfold dgC; simp; omega
       have hdr : dgR u = (n, i) := hdg.symm.trans (dg_stop hcc)
       refine w_reg ?_
       refine wl_mv (.tmp 6) (.int .i64 (n)) (fun _ => rfl) e6 rfl ?_
       cases hf34 : idk n with
       | true =>
        refine wl_call 31 [(.tmp 44)] _ [.int .i64 (n)] (.bool true) rfl rfl (fun _ _ => by kernel_rfl) (cB hf34 (pis_n n _)) rfl ?_
        intro u41 hq
        replace M := M.trans hq
        clear hq
        refine wl_un (fun v => Op.unary .not v) (.tmp 45) (.bool true) (.bool false) (fun _ => rfl) rfl (by kernel_rfl) rfl ?_
        refine w_nil (xn_then (w_condF rfl (w_skip (xn_then (w_seq ?_)))))
        refine w_any 5 [.inl (.int .i64 (n)), .inl (.string u), .inl (.int .i64 ((i : Nat) : Int)), .inl (.string (u.extract i u.size)), .inl (.int .i64 (n))] [] (by kernel_rfl) (by kernel_rfl) (by kernel_rfl) (by kernel_rfl) rfl (by kernel_rfl) (by kernel_rfl) late_nil ?_ ?_ ?_
        ·exact Ds.none rfl
        ·refine ea_cons ?_ (ea_cons ?_ (ea_cons ?_ (ea_cons ?_ (ea_cons ?_ (ea_nil)))))
         ·exact og_eq _ rfl (fun f wf hq hd K hK => go_run rfl (wo_mv (.tmp 6) (.int .i64 (n)) (fun _ => rfl) e6 (hK _ (Mo.refl _))))
         ·exact og_eq _ rfl (fun f wf hq hd K hK => go_run rfl (wo_mv (.tmp 0) (.string u) (fun _ => rfl) e0 (hK _ (Mo.refl _))))
         ·exact og_eq _ rfl (fun f wf hq hd K hK => go_run rfl (wo_mv (.tmp 5) (.int .i64 ((i : Nat) : Int)) (fun _ => rfl) e5 (hK _ (Mo.refl _))))
         ·exact og_eq _ rfl (fun f wf hq hd K hK => go_run rfl (wo_val (.string (u.extract i u.size)) (slb_lo _ _ _ u i (by exact (hd 1 rfl)) (by exact (hd 2 rfl)) hi _ _ _ _ _ _) (hK _ (Mo.refl _))))
         ·exact og_eq _ rfl (fun f wf hq hd K hK => go_run rfl (wo_mv (.tmp 47) (.int .i64 (n)) (fun _ => rfl) (hd 0 rfl) (hK _ (Mo.refl _))))
        intro kf42 u42 hq hR hne
        replace M := M.trans hq
        clear hq hR hne
        refine wl_m (.tmp 50) (.string (u.extract i u.size)) ?_
        refine wl_m (.const (.bool true)) (.bool true) ?_
        refine w_nil (xn_then (w_ret ?_))
        exact w_ret3 _ _ _ (.int .i64 (n)) (.string (u.extract i u.size)) (.bool true) rfl rfl rfl rfl ⟨ci_yes (by unfold cid; rw [if_neg hf0p, if_neg hf1p, hdr]; exact if_pos hf34), M⟩
       | false =>
        refine wl_call 31 [(.tmp 44)] _ [.int .i64 (n)] (.bool false) rfl rfl (fun _ _ => by kernel_rfl) (cB hf34 (pis_n n _)) rfl ?_
        intro u41 hq
        replace M := M.trans hq
        clear hq
        refine wl_un (fun v => Op.unary .not v) (.tmp 45) (.bool false) (.bool true) (fun _ => rfl) rfl (by kernel_rfl) rfl ?_
        refine w_nil (xn_then (w_condT rfl (w_seq (w_reg ?_))))
        refine wl_m (.const (.int .i64 (0))) (.int .i64 (0)) ?_
        refine wl_m (.const (.string ⟨#[]⟩)) (.string ⟨#[]⟩) ?_
        refine wl_m (.const (.bool false)) (.bool false) ?_
        refine w_nil (xn_then (w_ret (xr_then ?_)))
        exact w_ret3 _ _ _ (.int .i64 (0)) (.string ⟨#[]⟩) (.bool false) rfl rfl rfl rfl ⟨ci_no (by unfold cid; rw [if_neg hf0p, if_neg hf1p, hdr]; exact if_neg (by rw [hf34]; exact Bool.false_ne_true)), M⟩
     | false =>
      have hf32p := of_decide_eq_false hf32
      refine wl_b .leq 5 (.tmp 27) (.const (.int .u8 (57))) (.int .u8 (bt u i)) (.int .u8 (57)) (.bool false) (le5 hf32 _ _ _) ?_
      refine wl_pick (.tmp 24) (.tmp 28) (.const (.bool false)) true (.bool false) (fun _ => rfl) rfl rfl rfl ?_
      refine wl_m (.tmp 29) (.bool false) ?_
      refine wl_skip rfl (wl_skip rfl ?_)
      refine wl_pick (.tmp 30) (.tmp 32) (.const (.bool false)) false (.bool false) (fun _ => rfl) rfl rfl rfl ?_
      refine w_nil (xn_then (w_condF rfl (w_exit (xx_then (xx_then (xx_blk (xn_then (w_seq (w_seq ?_)))))))))
      have hcc : dgC u i n = false := by unfold dgC; simp; omega
      have hdr : dgR u = (n, i) := hdg.symm.trans (dg_stop hcc)
      refine w_reg ?_
      refine wl_mv (.tmp 6) (.int .i64 (n)) (fun _ => rfl) e6 rfl ?_
      cases hf33 : idk n with
      | true =>
       refine wl_call 31 [(.tmp 44)] _ [.int .i64 (n)] (.bool true) rfl rfl (fun _ _ => by kernel_rfl) (cB hf33 (pis_n n _)) rfl ?_
       intro u41 hq
       replace M := M.trans hq
       clear hq
       refine wl_un (fun v => Op.unary .not v) (.tmp 45) (.bool true) (.bool false) (fun _ => rfl) rfl (by kernel_rfl) rfl ?_
       refine w_nil (xn_then (w_condF rfl (w_skip (xn_then (w_seq ?_)))))
       refine w_any 5 [.inl (.int .i64 (n)), .inl (.string u), .inl (.int .i64 ((i : Nat) : Int)), .inl (.string (u.extract i u.size)), .inl (.int .i64 (n))] [] (by kernel_rfl) (by kernel_rfl) (by kernel_rfl) (by kernel_rfl) rfl (by kernel_rfl) (by kernel_rfl) late_nil ?_ ?_ ?_
       ·exact Ds.none rfl
       ·refine ea_cons ?_ (ea_cons ?_ (ea_cons ?_ (ea_cons ?_ (ea_cons ?_ (ea_nil)))))
        ·exact og_eq _ rfl (fun f wf hq hd K hK => go_run rfl (wo_mv (.tmp 6) (.int .i64 (n)) (fun _ => rfl) e6 (hK _ (Mo.refl _))))
        ·exact og_eq _ rfl (fun f wf hq hd K hK => go_run rfl (wo_mv (.tmp 0) (.string u) (fun _ => rfl) e0 (hK _ (Mo.refl _))))
        ·exact og_eq _ rfl (fun f wf hq hd K hK => go_run rfl (wo_mv (.tmp 5) (.int .i64 ((i : Nat) : Int)) (fun _ => rfl) e5 (hK _ (Mo.refl _))))
        ·exact og_eq _ rfl (fun f wf hq hd K hK => go_run rfl (wo_val (.string (u.extract i u.size)) (slb_lo _ _ _ u i (by exact (hd 1 rfl)) (by exact (hd 2 rfl)) hi _ _ _ _ _ _) (hK _ (Mo.refl _))))
        ·exact og_eq _ rfl (fun f wf hq hd K hK => go_run rfl (wo_mv (.tmp 47) (.int .i64 (n)) (fun _ => rfl) (hd 0 rfl) (hK _ (Mo.refl _))))
       intro kf42 u42 hq hR hne
       replace M := M.trans hq
       clear hq hR hne
       refine wl_m (.tmp 50) (.string (u.extract i u.size)) ?_
       refine wl_m (.const (.bool true)) (.bool true) ?_
       refine w_nil (xn_then (w_ret ?_))
       exact w_ret3 _ _ _ (.int .i64 (n)) (.string (u.extract i u.size)) (.bool true) rfl rfl rfl rfl ⟨ci_yes (by unfold cid; rw [if_neg hf0p, if_neg hf1p, hdr]; exact if_pos hf33), M⟩
      | false =>
       refine wl_call 31 [(.tmp 44)] _ [.int .i64 (n)] (.bool false) rfl rfl (fun _ _ => by kernel_rfl) (cB hf33 (pis_n n _)) rfl ?_
       intro u41 hq
       replace M := M.trans hq
       clear hq
       refine wl_un (fun v => Op.unary .not v) (.tmp 45) (.bool false) (.bool true) (fun _ => rfl) rfl (by kernel_rfl) rfl ?_
       refine w_nil (xn_then (w_condT rfl (w_seq (w_reg ?_))))
       refine wl_m (.const (.int .i64 (0))) (.int .i64 (0)) ?_
       refine wl_m (.const (.string ⟨#[]⟩)) (.string ⟨#[]⟩) ?_
       refine wl_m (.const (.bool false)) (.bool false) ?_
       refine w_nil (xn_then (w_ret (xr_then ?_)))
       exact w_ret3 _ _ _ (.int .i64 (0)) (.string ⟨#[]⟩) (.bool false) rfl rfl rfl rfl ⟨ci_no (by unfold cid; rw [if_neg hf0p, if_neg hf1p, hdr]; exact if_neg (by rw [hf33]; exact Bool.false_ne_true)), M⟩
    | false =>
     have hf31p := of_decide_eq_false hf31
     refine wl_b .geq 5 (.tmp 21) (.const (.int .u8 (48))) (.int .u8 (bt u i)) (.int .u8 (48)) (.bool false) (ge5 hf31 _ _ _) ?_
     refine wl_pick (.tmp 18) (.tmp 22) (.const (.bool false)) true (.bool false) (fun _ => rfl) rfl rfl rfl ?_
     refine wl_m (.tmp 23) (.bool false) ?_
     refine wl_skip rfl (wl_skip rfl (wl_skip rfl (wl_skip rfl ?_)))
     refine wl_pick (.tmp 24) (.tmp 28) (.const (.bool false)) false (.bool false) (fun _ => rfl) rfl rfl rfl ?_
     refine wl_m (.tmp 29) (.bool false) ?_
     refine wl_skip rfl (wl_skip rfl ?_)
     refine wl_pick (.tmp 30) (.tmp 32) (.const (.bool false)) false (.bool false) (fun _ => rfl) rfl rfl rfl ?_
     refine w_nil (xn_then (w_condF rfl (w_exit (xx_then (xx_then (xx_blk (xn_then (w_seq (w_seq ?_)))))))))
     have hcc : dgC u i n = false := by unfold dgC; simp; omega
     have hdr : dgR u = (n, i) := hdg.symm.trans (dg_stop hcc)
     refine w_reg ?_
     refine wl_mv (.tmp 6) (.int .i64 (n)) (fun _ => rfl) e6 rfl ?_
     cases hf32 : idk n with
     | true =>
      refine wl_call 31 [(.tmp 44)] _ [.int .i64 (n)] (.bool true) rfl rfl (fun _ _ => by kernel_rfl) (cB hf32 (pis_n n _)) rfl ?_
      intro u41 hq
      replace M := M.trans hq
      clear hq
      refine wl_un (fun v => Op.unary .not v) (.tmp 45) (.bool true) (.bool false) (fun _ => rfl) rfl (by kernel_rfl) rfl ?_
      refine w_nil (xn_then (w_condF rfl (w_skip (xn_then (w_seq ?_)))))
      refine w_any 5 [.inl (.int .i64 (n)), .inl (.string u), .inl (.int .i64 ((i : Nat) : Int)), .inl (.string (u.extract i u.size)), .inl (.int .i64 (n))] [] (by kernel_rfl) (by kernel_rfl) (by kernel_rfl) (by kernel_rfl) rfl (by kernel_rfl) (by kernel_rfl) late_nil ?_ ?_ ?_
      ·exact Ds.none rfl
      ·refine ea_cons ?_ (ea_cons ?_ (ea_cons ?_ (ea_cons ?_ (ea_cons ?_ (ea_nil)))))
       ·exact og_eq _ rfl (fun f wf hq hd K hK => go_run rfl (wo_mv (.tmp 6) (.int .i64 (n)) (fun _ => rfl) e6 (hK _ (Mo.refl _))))
       ·exact og_eq _ rfl (fun f wf hq hd K hK => go_run rfl (wo_mv (.tmp 0) (.string u) (fun _ => rfl) e0 (hK _ (Mo.refl _))))
       ·exact og_eq _ rfl (fun f wf hq hd K hK => go_run rfl (wo_mv (.tmp 5) (.int .i64 ((i : Nat) : Int)) (fun _ => rfl) e5 (hK _ (Mo.refl _))))
       ·exact og_eq _ rfl (fun f wf hq hd K hK => go_run rfl (wo_val (.string (u.extract i u.size)) (slb_lo _ _ _ u i (by exact (hd 1 rfl)) (by exact (hd 2 rfl)) hi _ _ _ _ _ _) (hK _ (Mo.refl _))))
       ·exact og_eq _ rfl (fun f wf hq hd K hK => go_run rfl (wo_mv (.tmp 47) (.int .i64 (n)) (fun _ => rfl) (hd 0 rfl) (hK _ (Mo.refl _))))
      intro kf42 u42 hq hR hne
      replace M := M.trans hq
      clear hq hR hne
      refine wl_m (.tmp 50) (.string (u.extract i u.size)) ?_
      refine wl_m (.const (.bool true)) (.bool true) ?_
      refine w_nil (xn_then (w_ret ?_))
      exact w_ret3 _ _ _ (.int .i64 (n)) (.string (u.extract i u.size)) (.bool true) rfl rfl rfl rfl ⟨ci_yes (by unfold cid; rw [if_neg hf0p, if_neg hf1p, hdr]; exact if_pos hf32), M⟩
     | false =>
      refine wl_call 31 [(.tmp 44)] _ [.int .i64 (n)] (.bool false) rfl rfl (fun _ _ => by kernel_rfl) (cB hf32 (pis_n n _)) rfl ?_
      intro u41 hq
      replace M := M.trans hq
      clear hq
      refine wl_un (fun v => Op.unary .not v) (.tmp 45) (.bool false) (.bool true) (fun _ => rfl) rfl (by kernel_rfl) rfl ?_
      refine w_nil (xn_then (w_condT rfl (w_seq (w_reg ?_))))
      refine wl_m (.const (.int .i64 (0))) (.int .i64 (0)) ?_
      refine wl_m (.const (.string ⟨#[]⟩)) (.string ⟨#[]⟩) ?_
      refine wl_m (.const (.bool false)) (.bool false) ?_
      refine w_nil (xn_then (w_ret (xr_then ?_)))
      exact w_ret3 _ _ _ (.int .i64 (0)) (.string ⟨#[]⟩) (.bool false) rfl rfl rfl rfl ⟨ci_no (by unfold cid; rw [if_neg hf0p, if_neg hf1p, hdr]; exact if_neg (by rw [hf32]; exact Bool.false_ne_true)), M⟩
   | false =>
    have hf30p := of_decide_eq_false hf30
    refine wl_b .lss 3 (.tmp 14) (.tmp 16) (.int .i64 ((i : Nat) : Int)) (.int .i64 ((u.size : Nat) : Int)) (.bool false) (ltN hf30 _ _ _) ?_
    refine wl_m (.tmp 17) (.bool false) ?_
    refine wl_skip rfl (wl_skip rfl (wl_skip rfl (wl_skip rfl ?_)))
    refine wl_pick (.tmp 18) (.tmp 22) (.const (.bool false)) false (.bool false) (fun _ => rfl) rfl rfl rfl ?_
    refine wl_m (.tmp 23) (.bool false) ?_
    refine wl_skip rfl (wl_skip rfl (wl_skip rfl (wl_skip rfl ?_)))
    refine wl_pick (.tmp 24) (.tmp 28) (.const (.bool false)) false (.bool false) (fun _ => rfl) rfl rfl rfl ?_
    refine wl_m (.tmp 29) (.bool false) ?_
    refine wl_skip rfl (wl_skip rfl ?_)
    refine wl_pick (.tmp 30) (.tmp 32) (.const (.bool false)) false (.bool false) (fun _ => rfl) rfl rfl rfl ?_
    refine w_nil (xn_then (w_condF rfl (w_exit (xx_then (xx_then (xx_blk (xn_then (w_seq (w_seq ?_)))))))))
    have hcc : dgC u i n = false := by unfold dgC; simp; omega
    have hdr : dgR u = (n, i) := hdg.symm.trans (dg_stop hcc)
    refine w_reg ?_
    refine wl_mv (.tmp 6) (.int .i64 (n)) (fun _ => rfl) e6 rfl ?_
    cases hf31 : idk n with
    | true =>
     refine wl_call 31 [(.tmp 44)] _ [.int .i64 (n)] (.bool true) rfl rfl (fun _ _ => by kernel_rfl) (cB hf31 (pis_n n _)) rfl ?_
     intro u41 hq
     replace M := M.trans hq
     clear hq
     refine wl_un (fun v => Op.unary .not v) (.tmp 45) (.bool true) (.bool false) (fun _ => rfl) rfl (by kernel_rfl) rfl ?_
     refine w_nil (xn_then (w_condF rfl (w_skip (xn_then (w_seq ?_)))))
     refine w_any 5 [.inl (.int .i64 (n)), .inl (.string u), .inl (.int .i64 ((i : Nat) : Int)), .inl (.string (u.extract i u.size)), .inl (.int .i64 (n))] [] (by kernel_rfl) (by kernel_rfl) (by kernel_rfl) (by kernel_rfl) rfl (by kernel_rfl) (by kernel_rfl) late_nil ?_ ?_ ?_
     ·exact Ds.none rfl
     ·refine ea_cons ?_ (ea_cons ?_ (ea_cons ?_ (ea_cons ?_ (ea_cons ?_ (ea_nil)))))
      ·exact og_eq _ rfl (fun f wf hq hd K hK => go_run rfl (wo_mv (.tmp 6) (.int .i64 (n)) (fun _ => rfl) e6 (hK _ (Mo.refl _))))
      ·exact og_eq _ rfl (fun f wf hq hd K hK => go_run rfl (wo_mv (.tmp 0) (.string u) (fun _ => rfl) e0 (hK _ (Mo.refl _))))
      ·exact og_eq _ rfl (fun f wf hq hd K hK => go_run rfl (wo_mv (.tmp 5) (.int .i64 ((i : Nat) : Int)) (fun _ => rfl) e5 (hK _ (Mo.refl _))))
      ·exact og_eq _ rfl (fun f wf hq hd K hK => go_run rfl (wo_val (.string (u.extract i u.size)) (slb_lo _ _ _ u i (by exact (hd 1 rfl)) (by exact (hd 2 rfl)) hi _ _ _ _ _ _) (hK _ (Mo.refl _))))
      ·exact og_eq _ rfl (fun f wf hq hd K hK => go_run rfl (wo_mv (.tmp 47) (.int .i64 (n)) (fun _ => rfl) (hd 0 rfl) (hK _ (Mo.refl _))))
     intro kf42 u42 hq hR hne
     replace M := M.trans hq
     clear hq hR hne
     refine wl_m (.tmp 50) (.string (u.extract i u.size)) ?_
     refine wl_m (.const (.bool true)) (.bool true) ?_
     refine w_nil (xn_then (w_ret ?_))
     exact w_ret3 _ _ _ (.int .i64 (n)) (.string (u.extract i u.size)) (.bool true) rfl rfl rfl rfl ⟨ci_yes (by unfold cid; rw [if_neg hf0p, if_neg hf1p, hdr]; exact if_pos hf31), M⟩
    | false =>
     refine wl_call 31 [(.tmp 44)] _ [.int .i64 (n)] (.bool false) rfl rfl (fun _ _ => by kernel_rfl) (cB hf31 (pis_n n _)) rfl ?_
     intro u41 hq
     replace M := M.trans hq
     clear hq
     refine wl_un (fun v => Op.unary .not v) (.tmp 45) (.bool false) (.bool true) (fun _ => rfl) rfl (by kernel_rfl) rfl ?_
     refine w_nil (xn_then (w_condT rfl (w_seq (w_reg ?_))))
     refine wl_m (.const (.int .i64 (0))) (.int .i64 (0)) ?_
     refine wl_m (.const (.string ⟨#[]⟩)) (.string ⟨#[]⟩) ?_
     refine wl_m (.const (.bool false)) (.bool false) ?_
     refine w_nil (xn_then (w_ret (xr_then ?_)))
     exact w_ret3 _ _ _ (.int .i64 (0)) (.string ⟨#[]⟩) (.bool false) rfl rfl rfl rfl ⟨ci_no (by unfold cid; rw [if_neg hf0p, if_neg hf1p, hdr]; exact if_neg (by rw [hf31]; exact Bool.false_ne_true)), M⟩
theorem szh {a : ByteArray} (h : a.size ≤ 140737488355328) : (⟨#[47]⟩ : ByteArray).size + a.size ≤ 9223372036854775807 ∧ (V.catB ⟨#[47]⟩ a).size + (⟨#[58]⟩ : ByteArray).size ≤ 9223372036854775807 := by
 unfold V.catB; simp only [ByteArray.size_append, V.s47, V.s58]; omega
theorem bgn_sz {s h u : ByteArray} (e : bgn s h = some u) : u.size ≤ s.size := by
 have q := bgS_sz s h
 unfold bgS at q
 rw [e] at q
 exact q
theorem cst_n {s nm : ByteArray} (w : World) (hs : s.size ≤ 9223372036854775807) (hn : nm.size ≤ 140737488355328) : Calls Tryd.prog 53 #[.string s, .string nm] w fun e9 w' => e9 = .returned (.tuple #[.int .i64 (ciN (cst s nm)), .string (ciS (cst s nm)), .bool (cst s nm).isSome]) ∧ Mo w w' := by
 have hz := szh hn
 refine w_enter 23 Tryd.func53 Tryd.ntmps53 rfl rfl ?_
 have M : Mo w w := Mo.refl _
 refine w_seq (w_reg ?_)
 refine wl_m (.const (.int .i64 (0))) (.int .i64 (0)) ?_
 refine wl_m (.const (.string ⟨#[]⟩)) (.string ⟨#[]⟩) ?_
 refine wl_m (.const (.bool false)) (.bool false) ?_
 refine w_nil (xn_then (w_seq (w_reg ?_)))
 refine wl_m (.tmp 0) (.string s) ?_
 refine wl_m (.tmp 1) (.string nm) ?_
 refine wl_b .add 9 (.const (.string ⟨#[47]⟩)) (.tmp 10) (.string ⟨#[47]⟩) (.string nm) (.string (V.catB ⟨#[47]⟩ nm)) (V.catc hz.1 _ _ _) ?_
 refine wl_b .add 9 (.tmp 11) (.const (.string ⟨#[58]⟩)) (.string (V.catB ⟨#[47]⟩ nm)) (.string ⟨#[58]⟩) (.string (V.catB (V.catB ⟨#[47]⟩ nm) ⟨#[58]⟩)) (V.catc hz.2 _ _ _) ?_
 cases hf0 : bgB s (V.catB (V.catB ⟨#[47]⟩ nm) ⟨#[58]⟩) with
 | true =>
  refine wl_call 38 [(.tmp 9), (.tmp 12)] _ [.string s, .string (V.catB (V.catB ⟨#[47]⟩ nm) ⟨#[58]⟩)] (.tuple #[.string (bgS s (V.catB (V.catB ⟨#[47]⟩ nm) ⟨#[58]⟩)), .bool true]) rfl rfl (fun _ _ => by kernel_rfl) (cR (by rw [hf0, bgB_t hf0]; rfl) (cpx_n (s := s) (h := (V.catB (V.catB ⟨#[47]⟩ nm) ⟨#[58]⟩)) _)) rfl ?_
  intro u1 hq
  replace M := M.trans hq
  clear hq
  refine wl_m (.tmp 13) (.tuple #[.string (bgS s (V.catB (V.catB ⟨#[47]⟩ nm) ⟨#[58]⟩)), .bool true]) ?_
  refine wl_un (fun v => Instr.extract v 0) (.tmp 8) (.tuple #[.string (bgS s (V.catB (V.catB ⟨#[47]⟩ nm) ⟨#[58]⟩)), .bool true]) (.string (bgS s (V.catB (V.catB ⟨#[47]⟩ nm) ⟨#[58]⟩))) (fun _ => rfl) rfl (by kernel_rfl) rfl ?_
  refine wl_un (fun v => Instr.extract v 1) (.tmp 8) (.tuple #[.string (bgS s (V.catB (V.catB ⟨#[47]⟩ nm) ⟨#[58]⟩)), .bool true]) (.bool true) (fun _ => rfl) rfl (by kernel_rfl) rfl ?_
  refine wl_m (.tmp 14) (.string (bgS s (V.catB (V.catB ⟨#[47]⟩ nm) ⟨#[58]⟩))) ?_
  refine wl_m (.tmp 15) (.bool true) ?_
  refine w_nil (xn_then (w_seq (w_seq (w_reg ?_))))
  refine wl_m (.tmp 7) (.bool true) ?_
  refine wl_un (fun v => Op.unary .not v) (.tmp 16) (.bool true) (.bool false) (fun _ => rfl) rfl (by kernel_rfl) rfl ?_
  refine w_nil (xn_then (w_condF rfl (w_skip (xn_then (w_seq (w_reg ?_))))))
  refine wl_m (.tmp 0) (.string (bgS s (V.catB (V.catB ⟨#[47]⟩ nm) ⟨#[58]⟩))) ?_
  refine wl_call 70 [(.tmp 18)] _ [.string (bgS s (V.catB (V.catB ⟨#[47]⟩ nm) ⟨#[58]⟩))] (.tuple #[.int .i64 (ciN (cid (bgS s (V.catB (V.catB ⟨#[47]⟩ nm) ⟨#[58]⟩)))), .string (ciS (cid (bgS s (V.catB (V.catB ⟨#[47]⟩ nm) ⟨#[58]⟩)))), .bool ((cid (bgS s (V.catB (V.catB ⟨#[47]⟩ nm) ⟨#[58]⟩))).isSome)]) rfl rfl (fun _ _ => by kernel_rfl) (cid_n (u := bgS s (V.catB (V.catB ⟨#[47]⟩ nm) ⟨#[58]⟩)) _ (Nat.le_trans (bgS_sz _ _) hs)) rfl ?_
  intro u2 hq
  replace M := M.trans hq
  clear hq
  refine wl_un (fun v => Instr.extract v 0) (.tmp 19) (.tuple #[.int .i64 (ciN (cid (bgS s (V.catB (V.catB ⟨#[47]⟩ nm) ⟨#[58]⟩)))), .string (ciS (cid (bgS s (V.catB (V.catB ⟨#[47]⟩ nm) ⟨#[58]⟩)))), .bool ((cid (bgS s (V.catB (V.catB ⟨#[47]⟩ nm) ⟨#[58]⟩))).isSome)]) (.int .i64 (ciN (cid (bgS s (V.catB (V.catB ⟨#[47]⟩ nm) ⟨#[58]⟩))))) (fun _ => rfl) rfl (by kernel_rfl) rfl ?_
  refine wl_un (fun v => Instr.extract v 1) (.tmp 19) (.tuple #[.int .i64 (ciN (cid (bgS s (V.catB (V.catB ⟨#[47]⟩ nm) ⟨#[58]⟩)))), .string (ciS (cid (bgS s (V.catB (V.catB ⟨#[47]⟩ nm) ⟨#[58]⟩)))), .bool ((cid (bgS s (V.catB (V.catB ⟨#[47]⟩ nm) ⟨#[58]⟩))).isSome)]) (.string (ciS (cid (bgS s (V.catB (V.catB ⟨#[47]⟩ nm) ⟨#[58]⟩))))) (fun _ => rfl) rfl (by kernel_rfl) rfl ?_
  refine wl_un (fun v => Instr.extract v 2) (.tmp 19) (.tuple #[.int .i64 (ciN (cid (bgS s (V.catB (V.catB ⟨#[47]⟩ nm) ⟨#[58]⟩)))), .string (ciS (cid (bgS s (V.catB (V.catB ⟨#[47]⟩ nm) ⟨#[58]⟩)))), .bool ((cid (bgS s (V.catB (V.catB ⟨#[47]⟩ nm) ⟨#[58]⟩))).isSome)]) (.bool ((cid (bgS s (V.catB (V.catB ⟨#[47]⟩ nm) ⟨#[58]⟩))).isSome)) (fun _ => rfl) rfl (by kernel_rfl) rfl ?_
  refine wl_m (.tmp 20) (.int .i64 (ciN (cid (bgS s (V.catB (V.catB ⟨#[47]⟩ nm) ⟨#[58]⟩))))) ?_
  refine wl_m (.tmp 21) (.string (ciS (cid (bgS s (V.catB (V.catB ⟨#[47]⟩ nm) ⟨#[58]⟩))))) ?_
  refine wl_m (.tmp 22) (.bool ((cid (bgS s (V.catB (V.catB ⟨#[47]⟩ nm) ⟨#[58]⟩))).isSome)) ?_
  refine w_nil (xn_then (w_ret ?_))
  exact w_ret3 _ _ _ (.int .i64 (ciN (cid (bgS s (V.catB (V.catB ⟨#[47]⟩ nm) ⟨#[58]⟩))))) (.string (ciS (cid (bgS s (V.catB (V.catB ⟨#[47]⟩ nm) ⟨#[58]⟩))))) (.bool ((cid (bgS s (V.catB (V.catB ⟨#[47]⟩ nm) ⟨#[58]⟩))).isSome)) rfl rfl rfl rfl ⟨by unfold cst; rw [bgB_t hf0]; rfl, M⟩
 | false =>
  refine wl_call 38 [(.tmp 9), (.tmp 12)] _ [.string s, .string (V.catB (V.catB ⟨#[47]⟩ nm) ⟨#[58]⟩)] (.tuple #[.string s, .bool false]) rfl rfl (fun _ _ => by kernel_rfl) (cR (by rw [hf0, bgB_f hf0]; rfl) (cpx_n (s := s) (h := (V.catB (V.catB ⟨#[47]⟩ nm) ⟨#[58]⟩)) _)) rfl ?_
  intro u1 hq
  replace M := M.trans hq
  clear hq
  refine wl_m (.tmp 13) (.tuple #[.string s, .bool false]) ?_
  refine wl_un (fun v => Instr.extract v 0) (.tmp 8) (.tuple #[.string s, .bool false]) (.string s) (fun _ => rfl) rfl (by kernel_rfl) rfl ?_
  refine wl_un (fun v => Instr.extract v 1) (.tmp 8) (.tuple #[.string s, .bool false]) (.bool false) (fun _ => rfl) rfl (by kernel_rfl) rfl ?_
  refine wl_m (.tmp 14) (.string s) ?_
  refine wl_m (.tmp 15) (.bool false) ?_
  refine w_nil (xn_then (w_seq (w_seq (w_reg ?_))))
  refine wl_m (.tmp 7) (.bool false) ?_
  refine wl_un (fun v => Op.unary .not v) (.tmp 16) (.bool false) (.bool true) (fun _ => rfl) rfl (by kernel_rfl) rfl ?_
  refine w_nil (xn_then (w_condT rfl (w_seq (w_reg ?_))))
  refine wl_m (.const (.int .i64 (0))) (.int .i64 (0)) ?_
  refine wl_m (.const (.string ⟨#[]⟩)) (.string ⟨#[]⟩) ?_
  refine wl_m (.const (.bool false)) (.bool false) ?_
  refine w_nil (xn_then (w_ret (xr_then ?_)))
  exact w_ret3 _ _ _ (.int .i64 (0)) (.string ⟨#[]⟩) (.bool false) rfl rfl rfl rfl ⟨ci_no (by unfold cst; rw [bgB_f hf0]; rfl), M⟩
end Go.Proofs.YtnffhcjmpjajlaaDoor

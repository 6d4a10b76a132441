/-
  A part of the proof.
-/
import Derived.Test.YthehmmhnacomkaaKa3
import Derived.Test.YthehmmhnacomkaaKa2
import Derived.Test.YthehmmhnacomkaaKa1
import Derived.RegionTactic
import Derived.Test.YthehmmhnacomkaaProg
import Derived.WalkKit
import Derived.WalkSpells
import Derived.Handy
import Derived.BigQuiet
import Derived.Deep.RegionHeld3
import Derived.Deep.MidRow
import Derived.BigCall
import Derived.Test.YthehmmhnacomkaaKa17
import Derived.Test.YthehmmhnacomkaaKa16
import Derived.Test.YthehmmhnacomkaaKa15
import Derived.Test.YthehmmhnacomkaaKa14
import Derived.Test.YthehmmhnacomkaaKa11
import Derived.Test.YthehmmhnacomkaaKa10
import Derived.Test.YthehmmhnacomkaaKa9
import Derived.Test.YthehmmhnacomkaaKa8
import Derived.Test.YthehmmhnacomkaaKa5
import Derived.Test.YthehmmhnacomkaaKa4
import Derived.Shelf.Small.Bits
import Derived.Shelf.Strconv.Itoa0
import Derived.Shelf.Bits.Mul64
import Derived.Deep.CutBlock
import Derived.Deep.CutRange
import Derived.Test.YthehmmhnacomkaaKa7
import Derived.Test.YthehmmhnacomkaaKa6
import Derived.ChangeKeysEq
import Derived.ScopeJumps
import Derived.WalkMore
import Derived.Laws.StructEq
import Derived.Test.YthehmmhnacomkaaKa13
import Derived.Test.YthehmmhnacomkaaKa12
import Derived.Lib.CutLaws
import Derived.Maps.OwnSet
import Derived.WalkArith
import Derived.StringKeys
import Derived.ProofKit
import Derived.OpenShut
import Derived.ChangeArms
import Derived.Deep.Slices
import Derived.ReadAgain
import Derived.WideKeyArgs
import Derived.Maps.AppendAt
import Derived.Test.YthehmmhnacomkaaKa20
import Derived.Test.YthehmmhnacomkaaRows
import Derived.Carry
import Derived.ChangeMaps5
import Derived.SizedLaws
import Derived.Deep.Strs
import Derived.Test.YthehmmhnacomkaaKa19
import Derived.Test.YthehmmhnacomkaaKa18
namespace Go.Proofs.Ythehmmhnacomkaa
open Go.RowKit
section
variable {P : Program} {o : Oper} {n : Nat} {l : List (Nat × Value)} {w : World} {ops : Array Oper} {rest : List Oper} {Q : Exit → Act → World → Prop} {K : Act → World → Prop}
theorem la_mv (x : Operand) (p : Value) (ho : ∀ ρ, execOp ρ o = pure (.value (ρ x))) (hx : evl n l x = p) : ∀ w, (execOp (evl n l) o).run P w = .ok (.value p) w := fun w => by rw [ho, hx]; rfl
end
end Go.Proofs.Ythehmmhnacomkaa

namespace Go.Proofs.Ythehmmhnacomkaa
open Go.RowKit Go.ChangeMaps
structure Mk (D : Nat → Prop) (w w' : World) : Prop where
 os : w'.os = w.os
 tape : w'.tape = w.tape
 output : w'.output = w.output
 size : w.heap.size ≤ w'.heap.size
 block : ∀ k, k < w.heap.size → ¬ D k → w'.heap[k]? = w.heap[k]?
 fz : ∀ a, w'.frozen? a = w.frozen? a
theorem Mk.refl (D : Nat → Prop) (w : World) : Mk D w w := ⟨rfl, rfl, rfl, Nat.le_refl _, fun _ _ _ => rfl, fun _ => rfl⟩
theorem Mk.of (D : Nat → Prop) {w w' : World} (h : Mo w w') : Mk D w w' := ⟨h.1.os, h.1.tape, h.1.output, h.1.size, fun k hk _ => h.1.block k hk, h.2⟩
theorem Mk.tr {D E : Nat → Prop} {a b c : World} (h : Mk D a b) (k : Mk E b c) (hE : ∀ j, j < a.heap.size → E j → D j) : Mk D a c :=
 ⟨k.os.trans h.os, k.tape.trans h.tape, k.output.trans h.output, Nat.le_trans h.size k.size, fun j hj hd => (k.block j (Nat.lt_of_lt_of_le hj h.size) (fun e => hd (hE j hj e))).trans (h.block j hj hd), fun x => (k.fz x).trans (h.fz x)⟩
theorem Mk.trans {D : Nat → Prop} {a b c : World} (h : Mk D a b) (k : Mo b c) : Mk D a c := h.tr (Mk.of D k) (fun _ _ e => e)
theorem Mk.same {D : Nat → Prop} {a b c : World} (h : Mk D a b) (k : Mk D b c) : Mk D a c := h.tr k (fun _ _ e => e)
theorem Mk.mono {D E : Nat → Prop} {a b : World} (h : Mk D a b) (hE : ∀ j, D j → E j) : Mk E a b := ⟨h.os, h.tape, h.output, h.size, fun k hk hd => h.block k hk (fun e => hd (hE k e)), h.fz⟩
theorem Mk.at {D : Nat → Prop} {w w' : World} (h : Mk D w w') {k : Nat} {vs : List Value} (hA : At w k vs) (hk : ¬ D k) : At w' k vs :=
 ⟨fun j v hv => (World.cell?_of_block (a := ⟨k, 0 + j, none⟩) (h.block k hA.2.2 hk)).trans (hA.1 j v hv), fun o => (h.fz _).trans (hA.2.1 o), Nat.lt_of_lt_of_le hA.2.2 h.size⟩
theorem Mk.mo {D : Nat → Prop} {a b c : World} (h : Mk D b c) (m : Mo a b) (hD : ∀ k, D k → a.heap.size ≤ k) : Mo a c :=
 ⟨⟨h.os.trans m.1.os, h.tape.trans m.1.tape, h.output.trans m.1.output, Nat.le_trans m.1.size h.size, fun k hk => (h.block k (Nat.lt_of_lt_of_le hk m.1.size) (fun e => by have := hD k e; omega)).trans (m.1.block k hk)⟩, fun x => (h.fz x).trans (m.2 x)⟩
theorem ne3 {a b : Int} {r : Bool} (h : decide (a = b) = r) (x y : Operand) (w : World) : (do eqGuard .neq 3 x y (.int .i64 a) (.int .i64 b); binOp .neq 3 (.int .i64 a) (.int .i64 b)).run Try.prog w = .ok (.bool (!r)) w := by
 subst h
 have e : (do eqGuard .neq 3 x y (.int .i64 a) (.int .i64 b); binOp .neq 3 (.int .i64 a) (.int .i64 b)).run Try.prog w = .ok (.bool (!(a == b))) w := by kernel_rfl
 rw [e]; congr 2
theorem gt3 {a b : Int} {r : Bool} (h : decide (b < a) = r) (x y : Operand) (w : World) : (do eqGuard .gtr 3 x y (.int .i64 a) (.int .i64 b); binOp .gtr 3 (.int .i64 a) (.int .i64 b)).run Try.prog w = .ok (.bool r) w := by
 subst h; kernel_rfl
theorem ge3 {a b : Int} {r : Bool} (h : decide (b ≤ a) = r) (x y : Operand) (w : World) : (do eqGuard .geq 3 x y (.int .i64 a) (.int .i64 b); binOp .geq 3 (.int .i64 a) (.int .i64 b)).run Try.prog w = .ok (.bool r) w := by
 subst h; kernel_rfl
theorem cR {P : Program} {g : FuncId} {args : Array Value} {w : World} {v v' : Value} (h : v = v') (c : Calls P g args w fun e w' => e = .returned v ∧ Mo w w') : Calls P g args w fun e w' => e = .returned v' ∧ Mo w w' := h ▸ c
section
variable {P : Program} {o : Oper} {n : Nat} {l : List (Nat × Value)} {w : World} {ops : Array Oper} {rest : List Oper} {Q : Exit → Act → World → Prop} {K : Act → World → Prop} {c : Code}
theorem wl_callx (g : FuncId) (xs : List Operand) (ats : Array TypeId) (args : List Value) {F : Ending → World → Prop} (ho : o.op = .call { callee := .value (.func g), args := xs.toArray, argTypes := ats }) (hx : xs.map (evl n l) = args)
  (h : ∀ args w, (callFunc g args).run P w = .ok (.enter g args) w)
  (hc : Calls P g args.toArray w F) (hg : wnt n l ops o = true) (hk : ∀ v w', F v w' → ∃ u, v = .returned u ∧ WL P ops Q rest n (ext l o.dst u) w') : WL P ops Q (o :: rest) n l w := by
 have e : (execOp (evl n l) o).run P w = .ok (.enter g args.toArray) w := by
  obtain ⟨dst, op, ty, pos, after, guard⟩ := o
  simp only at ho
  subst ho hx
  have e2 := execOp_call_go (fr n l) dst g xs.toArray ats ty pos after guard
  rw [fr_eval] at e2
  rw [e2, h]
  simp
 refine ⟨l_step hg ?_⟩
 unfold Oper.wp; rw [fr_eval, e, Oper.upon_enter]
 refine hc.mono ?_
 intro e w' hF
 obtain ⟨u, rfl, hW⟩ := hk e w' hF
 show wpList _ _ _ _ _ _
 rw [fr_put]
 exact hW.out
end
/-! Maps from names to whole numbers, and from names to flags. -/
variable {w w' : World} {b : Nat} {al : List (ByteArray × Int)}
end Go.Proofs.Ythehmmhnacomkaa

namespace Go.Proofs.Ythehmmhnacomkaa
open Go.ChangeShapes Go.WideShapes Go.ChangeAt Go.RowKit
theorem Mk.kp {D : Nat → Prop} {w w' : World} (m : Mk D w w') (hD : ∀ k, D k → ∀ o, w.cell? ⟨k, o, none⟩ = none) : Kp w w' := ⟨m.size, fun k o _ e => (World.cell?_of_block (a := ⟨k, o, none⟩) (m.block k (cell_lt e) (fun d => by rw [hD k d o] at e; cases e))).trans e⟩
namespace D
section runs
variable {P : Program} {w : World} {b o : Nat} {cs : List Value}
theorem run_oneR (h : w.rangeAt b o cs) (ty : TypeId) (j : Nat) {v : Value} (hv : cs[j]? = some v) {d : TypeDesc} (hu : P.underlying ty = some d) (hd : d.isRow = false) :
  (Instr.loadAt ty (pt b (o + j))).run P w = .ok v w := by
 have hagg : (isAgg ty).run P w = .ok false w := by
  unfold isAgg
  rw [Sem.run_bind, run_underlying hu w]
  cases d <;> simp_all
 have hc := h j v hv
 simp [Instr.loadAt, Instr.sureAddr, loadVar, Sem.run_bind, hagg, hc]
end runs
end D
end Go.Proofs.Ythehmmhnacomkaa

namespace Go.Proofs.Ythehmmhnacomkaa
open Go.RowKit D
theorem appG {st et sz bys : Nat} {zv : Value} (hst : Try.prog.underlying st = some (.slice et)) (hin : ∃ i, Try.prog.info? et = some i ∧ i.zero = some zv ∧ i.size = sz ∧ i.bytes = bys) (hzs : zv.cells.size = sz) (hsz : 0 < sz)
  (w : World) (ty : TypeId) (N : Nat) (v : Value) (n : Nat) (xs : List Value) (hown : w.ownsRow N et sz v n xs) (k m c : Nat) (news : List Value) (hl : news.length = m * sz) (hA : At w k news) (h1 : ∀ u ∈ news, u.oneCell' = true) (hm : 0 < m) (h63 : n + m ≤ maxLen) (hb : (n + m) * bys ≤ 140737488355328) (hN : N ≤ w.heap.size) :
  ∃ v' w', (Builtin.append_ #[st, st] ty #[v, .slice (some ⟨k, 0, none⟩) m c]).run Try.prog w = .ok v' w' ∧ w'.ownsRow N et sz v' (n + m) (xs ++ news) ∧ Mk (fun j => v.ownBlock = some j) w w' ∧ (v'.ownBlock = v.ownBlock ∨ v'.ownBlock = some w.heap.size) := by
 obtain ⟨i, hi, hz, hs, hby⟩ := hin
 have hm63 : (m : Int) ≤ 9223372036854775807 := by unfold maxLen at h63; omega
 have hbm : m * bys ≤ 140737488355328 := Nat.le_trans (Nat.mul_le_mul_right _ (by omega)) hb
 have hnews : ∀ j u, news[j]? = some u → w.cell? ((⟨k, 0, none⟩ : Addr).add j) = some u := fun j u hu => by
  rw [Addr.add_mid]; have := hA.1 j u hu; simpa using this
 obtain ⟨v', w', hr, h2, h3, _, h5⟩ := run_append_own_at (P := Try.prog) w N st ty et i _ sz bys hst hi hz hs hby hzs hsz v n xs hown ⟨k, 0, none⟩ m c news hl hnews h1 h63 hb hN
 refine ⟨v', w', hr, h2, ⟨h3.os, h3.tape, h3.output, h3.size, fun j hj hne => h3.block j hj (fun e => hne e.symm), ?_⟩, h5⟩
 rcases hown.2 with ⟨rfl, rfl⟩ | ⟨g, cap, cur, rfl, hbg, hg, hnc, hcm, hcs, htake⟩
 ·have hr2 := run_append_nil (P := Try.prog) w st ty et i _ hst hi hz ⟨k, 0, none⟩ m c news (by rw [hs]; exact hl) hnews hm hm63 (by rw [hby]; omega)
  rw [hr2] at hr
  cases hr
  exact ((Mo.refl w).drew.alloc _ _).2
 ·by_cases hroom : n + m ≤ cap
  ·have hr2 := run_append_room (P := Try.prog) w st ty et i hst hi g n cap cur hg ⟨k, 0, none⟩ m c news (by rw [hs]; exact hl) hnews h1 hroom (by rw [hs, hcs]; exact Nat.mul_le_mul_right _ hroom |> fun h => by first | omega | exact h | (rw [hl]; rw [Nat.add_mul] at h; omega))
   rw [hr2] at hr
   cases hr
   intro a
   by_cases e : a.block = g
   ·have h9 := setRow_heap w g cur (cur.toList.take (n * i.size) ++ news ++ cur.toList.drop (n * i.size + news.length)).toArray et (0, 0) hg
    simp only [World.frozen?, e, h9, hg]
   ·exact World.frozen?_of_block (setRow_other w g a.block _ e)
  ·have hr2 := run_append_grow (P := Try.prog) w st ty et i _ hst hi hz ⟨g, 0, none⟩ n cap xs (by rw [hs]; exact hown.1) (hown.cells (g := g) rfl) ⟨k, 0, none⟩ m c news (by rw [hs]; exact hl) hnews (by omega) (by unfold maxLen at h63; omega) (by rw [hby]; exact growslice_fits (by omega) hb)
   rw [hr2] at hr
   cases hr
   exact ((Mo.refl w).drew.alloc _ _).2
theorem own_form {w : World} {N e sz : Nat} {v : Value} {n : Nat} {xs : List Value} (h : w.ownsRow N e sz v n xs) : ∃ pa cap, v = .slice pa n cap ∧ ∀ a, pa = some a → ∃ g, a = ⟨g, 0, none⟩ := by
 rcases h.2 with ⟨rfl, rfl⟩ | ⟨g, cap, cur, rfl, _⟩
 ·exact ⟨none, 0, rfl, fun _ e => by cases e⟩
 ·exact ⟨_, _, rfl, fun a e => ⟨g, (Option.some.inj e).symm⟩⟩
theorem own_sl {w : World} {N e sz : Nat} {α : Type} {cells : α → List Value} (hl : ∀ x, (cells x).length = sz) {pa : Option Addr} {cap : Nat} {L : List α} (hz : L.length ≤ maxLen) (h : w.ownsRow N e sz (.slice pa L.length cap) L.length (L.flatMap cells)) : SL w sz cells pa L := by
 rcases h.2 with ⟨e, h0⟩ | ⟨g, c2, cur, e, hg, hb, hnc, hcm, hcs, htk⟩
 ·refine ⟨hz, fun i o hi => ?_⟩
  have := lt_of_get hi
  omega
 ·cases e
  refine SL.of_range hl hz (Array.getElem?_eq_some_iff.1 hb).1 (fun j v hv => ?_)
  rw [← htk, List.getElem?_take] at hv
  split at hv
  ·rw [Nat.zero_add]
   simp only [World.cell?, hb]
   simpa using hv
  ·cases hv
theorem own_mo {w w' : World} {N e sz : Nat} {v : Value} {n : Nat} {xs : List Value} (h : w.ownsRow N e sz v n xs) (m : Mo w w') : w'.ownsRow N e sz v n xs :=
 h.kept (row := none) ⟨m.1.os, m.1.tape, m.1.output, m.1.size, fun k hk _ => m.1.block k hk⟩ (by cases e : v.ownBlock <;> simp)
theorem own_lt {w : World} {N e sz : Nat} {v : Value} {n : Nat} {xs : List Value} (h : w.ownsRow N e sz v n xs) {k : Nat} (hk : v.ownBlock = some k) : k < w.heap.size ∧ N ≤ k := by
 rcases h.2 with ⟨rfl, rfl⟩ | ⟨g, cap, cur, rfl, hg, hb, _⟩
 ·cases hk
 ·cases hk; exact ⟨(Array.getElem?_eq_some_iff.1 hb).1, hg⟩
section
variable {o : Oper} {n : Nat} {l : List (Nat × Value)} {w : World} {ops : Array Oper} {rest : List Oper} {Q : Exit → Act → World → Prop}
theorem wl_app {st et sz bys : Nat} {zv : Value} (hst : Try.prog.underlying st = some (.slice et)) (hin : ∃ i, Try.prog.info? et = some i ∧ i.zero = some zv ∧ i.size = sz ∧ i.bytes = bys) (hzs : zv.cells.size = sz) (hsz : 0 < sz) (s x : Operand) (N : Nat) (v : Value) (q : Nat) (xs : List Value) (k m c : Nat) (news : List Value) (ho : o.op = .call { callee := .builtin .append, args := #[s, x], argTypes := #[st, st] }) (hs : evl n l s = v) (hx : evl n l x = .slice (some ⟨k, 0, none⟩) m c)
  (hown : w.ownsRow N et sz v q xs) (hl : news.length = m * sz) (hA : At w k news) (h1 : ∀ u ∈ news, u.oneCell' = true) (hm : 0 < m) (h63 : q + m ≤ maxLen) (hb : (q + m) * bys ≤ 140737488355328) (hN : N ≤ w.heap.size) (hg : wnt n l ops o = true)
  (hk : ∀ v' w', w'.ownsRow N et sz v' (q + m) (xs ++ news) → Mk (fun j => v.ownBlock = some j) w w' → (v'.ownBlock = v.ownBlock ∨ v'.ownBlock = some w.heap.size) → WL Try.prog ops Q rest n (ext l o.dst v') w') : WL Try.prog ops Q (o :: rest) n l w := by
 obtain ⟨v', w', hr, h2, h3, h4⟩ := appG hst hin hzs hsz w o.type N v q xs hown k m c news hl hA h1 hm h63 hb hN
 refine ⟨l_step hg (o_val v' (w' := w') ?_ (hk v' w' h2 h3 h4).out)⟩
 unfold execOp
 simp only [ho, resolve, invoke, builtin, Sem.run_bind, Sem.run_pure, Result.andThen_ok, List.map_toArray, List.map_cons, List.map_nil, hs, hx, hr]
end
end Go.Proofs.Ythehmmhnacomkaa

namespace Go.Proofs.Ythehmmhnacomkaa
open Go.RowKit D
theorem ix56 {pa : Option Addr} {b off i n c : Nat} (hp : pa = some ⟨b, off, none⟩) (h : i < n) (w : World) : (Instr.indexAt 56 (.slice pa n c) (.int .i64 (i : Int))).run Try.prog w = .ok (pt b (off + i * 1)) w := by
 subst hp
 have e : (Instr.indexAt 56 (.slice (some ⟨b, off, none⟩) n c) (.int .i64 (i : Int))).run Try.prog w = .ok (.pointer (some ((⟨b, off, none⟩ : Addr).add (i * 1)))) w := by simp [go_sem, h]
 rw [e, Addr.add_mid]
theorem len56 (ρ : Operand → Value) (x : Operand) (p : Option Addr) (m c : Nat) (hx : ρ x = .slice p m c) (dst : Option Tmp) (type : TypeId) (pos : String) (after : Array Edge) (guard : Option (Nat × Bool)) (w : World) : (execOp ρ { dst, op := .call { callee := .builtin .len, args := #[x], argTypes := #[56] }, type, pos, after, guard }).run Try.prog w = .ok (.value (.int .i64 (m : Int))) w := by
 simp [go_sem, hx]
theorem psgn_n {x : Dn} (hx : x.ok) (w : World) : Calls Try.prog 46 #[x.v] w fun e9 w' => e9 = .returned (.int .i64 (sg x.b x.n)) ∧ Mo w w' := sign_n x.b x.n x.s w hx.1 hx.2
theorem good_add {x y : Dn} (hx : x.fit) (hy : y.fit) : (addD x y).good := good_fz (sc_max (ck_s hx.2) (ck_s hy.2))
theorem good_says {s : Stp} {x : Dn} (hs : s.fit) (hx : x.fit) : (saysD s x).good := by
 unfold saysD
 split
 next e1 =>
  have g1 := (good_sub hx hs.1).fit e1
  split
  next e2 => exact good_add ((good_mul g1 hs.2.2).fit e2) hs.2.1
  next => exact good_er
 next => exact good_er
end Go.Proofs.Ythehmmhnacomkaa
namespace Go.Proofs.Ythehmmhnacomkaa
open Go.RowKit D
theorem pw_zero : pw 0 = 1 := rfl
theorem cmp_or (x y : Dn) : cmpD x y = -1 ∨ cmpD x y = 0 ∨ cmpD x y = 1 := by
 unfold cmpD cm
 split; · exact .inl rfl
 split; · exact .inr (.inr rfl)
 exact .inr (.inl rfl)
end Go.Proofs.Ythehmmhnacomkaa
namespace Go.Proofs.Ythehmmhnacomkaa
open Go.ChangeShapes Go.WideShapes Go.ChangeAt Go.RowKit Go.ChangeMaps
set_option maxRecDepth 100000
section
variable {H : Type} {enc : TypeId × Value → H} {W : World} {base : Nat} {v : Value} {d : DataW H} {p : List MemPlace}
theorem open_dn (hv : Value.okWide Try.prog W .any base 33 v) (h : DataW.Trod enc Try.prog W 0 (fun _ => true) true 33 v d p) : ∃ x : Dn, v = x.v ∧ x.ok := by
 obtain ⟨a, rfl, _⟩ := okWide_struct Try.underlying33 hv
 obtain ⟨fuel, hf⟩ := h
 obtain ⟨_, b, n, s, hx, e⟩ := cut6 hf
 exact ⟨⟨b, n, s⟩, by have e2 : a = (⟨b, n, s⟩ : Dn).cells.toArray := (by show a = _; unfold Dn.cells; rw [← e]; simp [Value.cells]); rw [e2], hx⟩
end
namespace D
end D
end Go.Proofs.Ythehmmhnacomkaa
namespace Go.Proofs.Ythehmmhnacomkaa
open Go.RowKit D
theorem inf3 : ∃ i, Try.prog.info? 3 = some i ∧ i.zero = some (.int .i64 0) ∧ i.size = 1 ∧ i.bytes = 8 := by
 have h : (Try.prog.info? 3).map (fun i => (i.zero, i.size, i.bytes)) = some (some (.int .i64 0), 1, 8) := by kernel_rfl
 cases hi : Try.prog.info? 3 with
 | none => rw [hi] at h; cases h
 | some i =>
  rw [hi] at h
  simp at h
  exact ⟨i, rfl, h.1, h.2.1, h.2.2⟩
def jE : List Stp → Int
 | x :: y :: r => if (saysD x y.a).e = 0 then jE (y :: r) else (saysD x y.a).e
 | _ => 0
def jcL : List Stp → List Int
 | x :: y :: r => cmpD y.b (saysD x y.a).d :: jcL (y :: r)
 | _ => []
def NE (L : List Stp) (i : Nat) : Prop := ∀ j < i, ∀ a b, L[j]? = some a → L[j + 1]? = some b → (saysD a b.a).e = 0
theorem jE_at : ∀ {L : List Stp} {i : Nat} {x y : Stp}, L[i]? = some x → L[i + 1]? = some y → NE L i → ¬ (saysD x y.a).e = 0 → jE L = (saysD x y.a).e
 | [], i, x, y, hx, _, _, _ => by simp at hx
 | [_], i, x, y, _, hy, _, _ => by simp at hy
 | a :: b :: r, i, x, y, hx, hy, hN, h => by
  rw [jE]
  cases i with
  | zero => simp at hx hy; subst hx hy; rw [if_neg h]
  | succ i =>
   rw [if_pos (hN 0 (by omega) a b rfl rfl)]
   exact jE_at (by simpa using hx) (by simpa using hy) (fun j hj c d hc hd => hN (j + 1) (by omega) c d (by simpa using hc) (by simpa using hd)) h
theorem jE_0 : ∀ {L : List Stp}, NE L L.length → jE L = 0
 | [], _ => rfl
 | [_], _ => rfl
 | a :: b :: r, h => by
  rw [jE, if_pos (h 0 (by simp) a b rfl rfl)]
  exact jE_0 (fun j hj c d hc hd => h (j + 1) (by simp at hj ⊢; omega) c d (by simpa using hc) (by simpa using hd))
theorem jE_no : ∀ {L : List Stp}, jE L = 0 → ∀ {i : Nat} {x y : Stp}, L[i]? = some x → L[i + 1]? = some y → (saysD x y.a).e = 0
 | [], _, i, x, y, hx, _ => by simp at hx
 | [_], _, i, x, y, _, hy => by simp at hy
 | a :: b :: r, h, i, x, y, hx, hy => by
  rw [jE] at h
  split at h
  next h0 =>
   cases i with
   | zero => simp at hx hy; subst hx hy; exact h0
   | succ i => exact jE_no h (by simpa using hx) (by simpa using hy)
  next h0 => exact absurd h h0
theorem jcL_at : ∀ {L : List Stp} {i : Nat} {x y : Stp}, L[i]? = some x → L[i + 1]? = some y → (jcL L)[i]? = some (cmpD y.b (saysD x y.a).d)
 | [], i, x, y, hx, _ => by simp at hx
 | [_], i, x, y, _, hy => by simp at hy
 | a :: b :: r, i, x, y, hx, hy => by
  rw [jcL]
  cases i with
  | zero => simp at hx hy; subst hx hy; rfl
  | succ i => exact jcL_at (by simpa using hx) (by simpa using hy)
theorem jcL_len : ∀ L : List Stp, (jcL L).length = L.length - 1
 | [] => rfl
 | [_] => rfl
 | a :: b :: r => by rw [jcL, List.length_cons, jcL_len (b :: r)]; simp
theorem jcL_or : ∀ {L : List Stp} {n : Int}, n ∈ jcL L → n = -1 ∨ n = 0 ∨ n = 1
 | [], n, h => by simp [jcL] at h
 | [_], n, h => by simp [jcL] at h
 | a :: b :: r, n, h => by
  rw [jcL] at h
  rcases List.mem_cons.1 h with rfl | h
  ·exact cmp_or _ _
  ·exact jcL_or h
theorem ne_next {L : List Stp} {i : Nat} {x y : Stp} (h : NE L i) (hx : L[i]? = some x) (hy : L[i + 1]? = some y) (hk : (saysD x y.a).e = 0) : NE L (i + 1) := by
 intro j hj a b ha hb
 by_cases e : j = i
 ·subst e; rw [hx] at ha; rw [hy] at hb; cases ha; cases hb; exact hk
 ·exact h j (by omega) a b ha hb
theorem ne_end {L : List Stp} {i : Nat} (h : NE L i) (hi : ¬ i + 1 < L.length) : jE L = 0 :=
 jE_0 (fun j _ a b ha hb => h j (by have := lt_of_get hb; omega) a b ha hb)
def rsE (L : List Stp) : Int := if chkT L = 0 then jE L else chkT L
theorem take_next {α : Type} {L : List α} {i : Nat} {x : α} (h : L[i]? = some x) : L.take (i + 1) = L.take i ++ [x] := by rw [List.take_add_one, h]; rfl
def ic (i : Int) : List Value := [.int .i64 i]
abbrev SI (w : World) (pa : Option Addr) (l : List Int) : Prop := SL w 1 ic pa l
theorem own_nil (w : World) (N : Nat) : w.ownsRow N 3 1 (.slice none 0 0) 0 [] := ⟨by simp, Or.inl ⟨rfl, rfl⟩⟩
theorem jumps_n {x : Tb} (w : World) (hT : LT w x) : Calls Try.prog 35 #[.agg (x.cells).toArray] w fun e9 w' => ∃ pa cap, e9 = .returned (.tuple #[.slice pa (if rsE x.st = 0 then jcL x.st else []).length cap, .int .i64 (rsE x.st)]) ∧ SI w' pa (if rsE x.st = 0 then jcL x.st else []) ∧ Mo w w' := by
 refine w_enter 52 Try.func35 Try.ntmps35 rfl rfl ?_
 have M : Mo w w := Mo.refl _
 refine w_seq (w_reg ?_)
 refine wl_box 24 (.tmp 0) _ (((x.cells).toArray)) rfl rfl (fun _ => by kernel_rfl) rfl ?_
 intro k1 u1 hk hz hq Q1
 have N_k1 : w.heap.size ≤ k1 := by have := M.size; omega
 replace M := M.trans hq
 clear hk hz hq
 refine wl_m (.const (.slice none 0 0)) (.slice none 0 0) ?_
 refine wl_m (.const (.int .i64 (0))) (.int .i64 (0)) ?_
 refine w_nil (xn_then (w_seq (w_seq (w_reg ?_))))
 refine wl_l 24 (.tmp 1) (pt k1 0) (.agg (x.cells).toArray) (run_row Q1 24 0 2 (x.cells) rfl Try.underlying24 rfl szT24) ?_
 refine wl_call 9 [(.tmp 9)] _ [.agg (x.cells).toArray] (.int .i64 (chkT x.st)) rfl rfl (fun _ _ => by kernel_rfl) (pck_n _ (hT.mo M)) rfl ?_
 intro u2 hq
 replace Q1 := Q1.mo hq
 replace M := M.trans hq
 clear hq
 refine wl_m (.tmp 10) (.int .i64 (chkT x.st)) ?_
 refine w_nil (xn_then (w_seq (w_reg ?_)))
 refine wl_m (.tmp 4) (.int .i64 (chkT x.st)) ?_
 cases hf0 : decide (chkT x.st = 0) with
 | true =>
  have hf0p := of_decide_eq_true hf0
  refine wl_b .neq 26 (.tmp 11) (.const (.int .i64 (0))) (.int .i64 (chkT x.st)) (.int .i64 (0)) (.bool false) (ne34 hf0 _ _ _) ?_
  refine w_nil (xn_then (w_condF rfl (w_skip (xn_then (w_seq (w_reg ?_))))))
  refine wl_m (.const (.slice none 0 0)) (.slice none 0 0) ?_
  refine w_nil (xn_then (w_seq (w_seq (w_reg ?_))))
  refine wl_m (.const (.int .i64 (1))) (.int .i64 (1)) ?_
  refine w_nil (xn_then (w_block ?_))
  obtain ⟨hl32, _, hall, _⟩ := chk_0 hf0p
  obtain ⟨N9, hN9⟩ : ∃ N9, N9 = u2.heap.size := ⟨_, rfl⟩
  have hk9 : k1 < N9 := by have := Q1.lt; omega
  have hw9 : w.heap.size ≤ N9 := by have := M.size; omega
  refine w_loop (fun m l w1 => ∃ i : Nat, m = x.st.length - i ∧ i ≤ x.st.length ∧ look l 1 = pt k1 0 ∧ look l 6 = .int .i64 ((i + 1 : Nat) : Int) ∧ At w1 k1 (x.cells) ∧ (∀ k, look l 7 = pt k 0 → k < w1.heap.size) ∧ (N9 ≤ w1.heap.size) ∧ (NE x.st i) ∧ (∃ pa cap, look l 5 = .slice pa ((jcL x.st).take i).length cap ∧ w1.ownsRow N9 3 1 (.slice pa ((jcL x.st).take i).length cap) ((jcL x.st).take i).length (((jcL x.st).take i).flatMap ic)) ∧ Mo w w1) _ ⟨0, rfl, Nat.zero_le _, rfl, rfl, Q1, (fun k e => by cases e), (Nat.le_of_eq hN9), (fun j hj => absurd hj (Nat.not_lt_zero j)), ⟨none, 0, rfl, own_nil _ _⟩, M⟩ ?_
  clear Q1 M
  rintro m l40 wl40 ⟨i, rfl, hi, e40_1, e40_i, Q1, d7, hNw, hne, ⟨pa5, cap5, e5, hown⟩, M⟩
  by_cases hil : i + 1 < x.st.length
  ·skip
   have hid : decide (i + 1 < x.st.length) = true := decide_eq_true hil
   have MB := M
   replace M : Mo wl40 wl40 := Mo.refl _
   have hTB := hT.mo MB
   have hN0 := hNw
   have hown0 := hown
   have hil0 : i < x.st.length := by omega
   obtain ⟨y1, hy1⟩ := get_of_lt hil
   have hmy1 := List.mem_of_getElem? hy1
   obtain ⟨bp, op, hpp, hRp⟩ := D.SL.rw hTB.sl hy1
   obtain ⟨y0, hy0⟩ := get_of_lt hil0
   have hmy0 := List.mem_of_getElem? hy0
   obtain ⟨bq, oq, hpq, hRq⟩ := D.SL.rw hTB.sl hy0
   refine w_seq (w_seq (w_reg ?_))
   refine wl_mv (.tmp 6) (.int .i64 ((i + 1 : Nat) : Int)) (fun _ => rfl) e40_i rfl ?_
   refine wl_un (fun v => Instr.fieldAt 24 v 1) (.tmp 1) (pt k1 0) (pt k1 1) (fun _ => rfl) e40_1 (by kernel_rfl) rfl ?_
   refine wl_l 22 (.tmp 15) (pt k1 1) (.slice x.pa x.st.length x.cap) (run_one Q1 22 1 rfl Try.underlying22 rfl) ?_
   refine wl_val (.int .i64 ((x.st.length : Nat) : Int)) (len22 _ _ _ _ _ (by exact rfl) _ _ _ _ _ _) rfl ?_
   refine wl_b .lss 3 (.tmp 14) (.tmp 17) (.int .i64 ((i + 1 : Nat) : Int)) (.int .i64 ((x.st.length : Nat) : Int)) (.bool true) (ltN hid _ _ _) ?_
   refine w_nil (xn_then (w_condT rfl (w_skip (xn_then (w_seq (w_block (w_seq ?_)))))))
   refine w_any 17 [.inl (pt k1 1), .inl (.slice x.pa x.st.length x.cap), .inl (.int .i64 ((i + 1 : Nat) : Int)), .inl (.int .i64 ((i : Nat) : Int)), .inl (pt bq (oq + i * 18)), .inl (.agg (y0.cells).toArray), .inl (pt k1 1), .inl (.slice x.pa x.st.length x.cap), .inl (.int .i64 ((i + 1 : Nat) : Int)), .inl (pt bp (op + (i + 1) * 18)), .inl (pt bp (op + (i + 1) * 18)), .inl (.agg (y1.a.cells).toArray), .inl (.tuple #[.agg ((saysD y0 y1.a).d.cells).toArray, .int .i64 ((saysD y0 y1.a).e)]), .inl (.tuple #[.agg ((saysD y0 y1.a).d.cells).toArray, .int .i64 ((saysD y0 y1.a).e)]), .inl (.agg ((saysD y0 y1.a).d.cells).toArray), .inl (.int .i64 ((saysD y0 y1.a).e)), .inr [.bool false, .int .u64 0, .int .u64 0, .int .u64 0, .int .u64 0, .int .i64 0]] [15] (by kernel_rfl) (by kernel_rfl) (by kernel_rfl) (by kernel_rfl) rfl (by kernel_rfl) (by kernel_rfl) (late_cons ⟨_, _, rfl, rfl, fun _ _ _ _ h => h, fun f hd => ⟨rfl, la_un (fun v => Instr.extract v 1) (.tmp 21) (.tuple #[.agg ((saysD y0 y1.a).d.cells).toArray, .int .i64 ((saysD y0 y1.a).e)]) (.int .i64 ((saysD y0 y1.a).e)) (fun _ => rfl) (hd 13 rfl _ rfl) (fun w => by kernel_rfl)⟩⟩ late_nil) ?_ ?_ ?_
   ·exact Ds.one 16 (fun q hq => by rcases q with _ | _ | _ | _ | _ | _ | _ | _ | _ | _ | _ | _ | _ | _ | _ | _ | _ | _ | _ | q <;> first | rfl | cases hq) d7
   ·refine ea_cons ?_ (ea_cons ?_ (ea_cons ?_ (ea_cons ?_ (ea_cons ?_ (ea_cons ?_ (ea_cons ?_ (ea_cons ?_ (ea_cons ?_ (ea_cons ?_ (ea_cons ?_ (ea_cons ?_ (ea_cons ?_ (ea_cons ?_ (ea_cons ?_ (ea_cons ?_ (ea_cons ?_ (ea_nil)))))))))))))))))
    ·exact og_eq _ rfl (fun f wf hq hd K hK => go_run rfl (wo_un (fun v => Instr.fieldAt 24 v 1) (.tmp 1) (pt k1 0) (pt k1 1) (fun _ => rfl) e40_1 (by kernel_rfl) (hK _ (Mo.refl _))))
    ·exact og_eq _ rfl (fun f wf hq hd K hK => have Q1 := Q1.mo hq; go_run rfl (wo_load 22 (.tmp 22) (pt k1 1) (.slice x.pa x.st.length x.cap) rfl (hd 0 rfl) (run_one Q1 22 1 rfl Try.underlying22 rfl) (hK _ (Mo.refl _))))
    ·exact og_eq _ rfl (fun f wf hq hd K hK => go_run rfl (wo_mv (.tmp 6) (.int .i64 ((i + 1 : Nat) : Int)) (fun _ => rfl) e40_i (hK _ (Mo.refl _))))
    ·exact og_eq _ rfl (fun f wf hq hd K hK => go_run rfl (wo_bin (fun x y => do eqGuard .sub 3 (.tmp 24) (.const (.int .i64 (1))) x y; binOp .sub 3 x y) (.tmp 24) (.const (.int .i64 (1))) (.int .i64 ((i + 1 : Nat) : Int)) (.int .i64 (1)) (.int .i64 ((i : Nat) : Int)) (fun _ => rfl) (hd 2 rfl) rfl (sub1r (k := i) (by omega) _ _ _) (hK _ (Mo.refl _))))
    ·exact og_eq _ rfl (fun f wf hq hd K hK => go_run rfl (wo_bin (fun x y => Instr.indexAt 22 x y) (.tmp 23) (.tmp 25) (.slice x.pa x.st.length x.cap) (.int .i64 ((i : Nat) : Int)) (pt bq (oq + i * 18)) (fun _ => rfl) (hd 1 rfl) (hd 3 rfl) (ix22 (i := i) hpq hil0 _) (hK _ (Mo.refl _))))
    ·exact og_eq _ rfl (fun f wf hq hd K hK => go_run rfl (wo_load 45 (.tmp 26) (pt bq (oq + i * 18)) (.agg (y0.cells).toArray) rfl (hd 4 rfl) (D.run_partR (hRq.mo (M.trans hq)).at' 45 0 18 (y0.cells) rfl Try.underlying45 rfl sz45) (hK _ (Mo.refl _))))
    ·exact og_eq _ rfl (fun f wf hq hd K hK => go_run rfl (wo_un (fun v => Instr.fieldAt 24 v 1) (.tmp 1) (pt k1 0) (pt k1 1) (fun _ => rfl) e40_1 (by kernel_rfl) (hK _ (Mo.refl _))))
    ·exact og_eq _ rfl (fun f wf hq hd K hK => have Q1 := Q1.mo hq; go_run rfl (wo_load 22 (.tmp 28) (pt k1 1) (.slice x.pa x.st.length x.cap) rfl (hd 6 rfl) (run_one Q1 22 1 rfl Try.underlying22 rfl) (hK _ (Mo.refl _))))
    ·exact og_eq _ rfl (fun f wf hq hd K hK => go_run rfl (wo_mv (.tmp 6) (.int .i64 ((i + 1 : Nat) : Int)) (fun _ => rfl) e40_i (hK _ (Mo.refl _))))
    ·exact og_eq _ rfl (fun f wf hq hd K hK => go_run rfl (wo_bin (fun x y => Instr.indexAt 22 x y) (.tmp 29) (.tmp 30) (.slice x.pa x.st.length x.cap) (.int .i64 ((i + 1 : Nat) : Int)) (pt bp (op + (i + 1) * 18)) (fun _ => rfl) (hd 7 rfl) (hd 8 rfl) (ix22 (i := i + 1) hpp hil _) (hK _ (Mo.refl _))))
    ·exact og_eq _ rfl (fun f wf hq hd K hK => go_run rfl (wo_un (fun v => Instr.fieldAt 45 v 0) (.tmp 31) (pt bp (op + (i + 1) * 18)) (pt bp (op + (i + 1) * 18)) (fun _ => rfl) (hd 9 rfl) (by kernel_rfl) (hK _ (Mo.refl _))))
    ·exact og_eq _ rfl (fun f wf hq hd K hK => go_run rfl (wo_load 33 (.tmp 32) (pt bp (op + (i + 1) * 18)) (.agg (y1.a.cells).toArray) rfl (hd 10 rfl) (D.run_partR (hRp.mo (M.trans hq)).at' 33 0 6 (y1.a.cells) rfl Try.underlying33 rfl sz33) (hK _ (Mo.refl _))))
    ·exact og_eq _ rfl (fun f wf hq hd K hK => go_run rfl (wo_call 32 [(.tmp 27), (.tmp 33)] _ [.agg (y0.cells).toArray, .agg (y1.a.cells).toArray] (.tuple #[.agg ((saysD y0 y1.a).d.cells).toArray, .int .i64 ((saysD y0 y1.a).e)]) rfl (li2 (hd 5 rfl) (hd 11 rfl)) (fun _ _ => by kernel_rfl) (psays_n _ (fit_of hT.ok hall hy0) (fit_of hT.ok hall hy1).1) hK))
    ·exact og_eq _ rfl (fun f wf hq hd K hK => go_run rfl (wo_mv (.tmp 34) (.tuple #[.agg ((saysD y0 y1.a).d.cells).toArray, .int .i64 ((saysD y0 y1.a).e)]) (fun _ => rfl) (hd 12 rfl) (hK _ (Mo.refl _))))
    ·exact og_eq _ rfl (fun f wf hq hd K hK => go_run rfl (wo_un (fun v => Instr.extract v 0) (.tmp 21) (.tuple #[.agg ((saysD y0 y1.a).d.cells).toArray, .int .i64 ((saysD y0 y1.a).e)]) (.agg ((saysD y0 y1.a).d.cells).toArray) (fun _ => rfl) (hd 13 rfl) (by kernel_rfl) (hK _ (Mo.refl _))))
    ·exact og_eq _ rfl (fun f wf hq hd K hK => go_run rfl (wo_un (fun v => Instr.extract v 1) (.tmp 21) (.tuple #[.agg ((saysD y0 y1.a).d.cells).toArray, .int .i64 ((saysD y0 y1.a).e)]) (.int .i64 ((saysD y0 y1.a).e)) (fun _ => rfl) (hd 13 rfl) (by kernel_rfl) (hK _ (Mo.refl _))))
    ·exact og_new [.bool false, .int .u64 0, .int .u64 0, .int .u64 0, .int .u64 0, .int .i64 0] rfl (fun f wf hq hd K hK => go_run rfl (wo_alloc 33 #[.bool false, .int .u64 0, .int .u64 0, .int .u64 0, .int .u64 0, .int .i64 0] rfl (fun _ => by kernel_rfl) hK))
   intro kf41 u41 hq hR hne
   obtain ⟨N_k2, Q2⟩ := hR 16 _ rfl rfl
   have ne_k1_k2 : k1 ≠ (kf41 16) := by have := Q1.lt; omega
   replace N_k2 := Nat.le_trans M.size N_k2
   replace Q1 := Q1.mo hq
   replace M := M.trans hq
   clear hq hR hne
   refine wl_st 33 (.tmp 7) (.tmp 35) (kf41 16) 0 (((saysD y0 y1.a).d.cells).toArray) _ ((saysD y0 y1.a).d.cells) Q2 rfl rfl rfl rfl rfl sz33 rfl rfl rfl ?_
   intro u42 hS Qn
   replace Q2 := Qn
   clear Qn
   replace Q1 := hS.other _ _ ne_k1_k2 Q1
   replace M := hS.mo _ N_k2 M
   clear hS
   refine wl_m (.tmp 36) (.int .i64 ((saysD y0 y1.a).e)) ?_
   refine w_nil (xn_then (w_seq (w_seq (w_reg ?_))))
   refine wl_m (.tmp 8) (.int .i64 ((saysD y0 y1.a).e)) ?_
   cases hf30 : decide ((saysD y0 y1.a).e = 0) with
   | true =>
    have hf30p := of_decide_eq_true hf30
    refine wl_b .neq 26 (.tmp 37) (.const (.int .i64 (0))) (.int .i64 ((saysD y0 y1.a).e)) (.int .i64 (0)) (.bool false) (ne34 hf30 _ _ _) ?_
    refine w_nil (xn_then (w_condF rfl (w_skip (xn_then ?_))))
    refine w_any 9 [.inl (.slice pa5 ((jcL x.st).take i).length cap5), .inl (pt k1 1), .inl (.slice x.pa x.st.length x.cap), .inl (.int .i64 ((i + 1 : Nat) : Int)), .inl (pt bp (op + (i + 1) * 18)), .inl (pt bp (op + (i + 1) * 18 + 6)), .inl (.agg (y1.b.cells).toArray), .inl (.agg ((saysD y0 y1.a).d.cells).toArray), .inl (.int .i64 (cmpD y1.b (saysD y0 y1.a).d))] [0] (by kernel_rfl) (by kernel_rfl) (by kernel_rfl) (by kernel_rfl) rfl (by kernel_rfl) (by kernel_rfl) (late_cons ⟨_, _, rfl, rfl, fun _ _ _ _ h => h, fun f hd => ⟨rfl, la_mv (.tmp 5) (.slice pa5 ((jcL x.st).take i).length cap5) (fun _ => rfl) e5⟩⟩ late_nil) ?_ ?_ ?_
    ·exact Ds.none rfl
    ·refine ea_cons ?_ (ea_cons ?_ (ea_cons ?_ (ea_cons ?_ (ea_cons ?_ (ea_cons ?_ (ea_cons ?_ (ea_cons ?_ (ea_cons ?_ (ea_nil)))))))))
     ·exact og_eq _ rfl (fun f wf hq hd K hK => go_run rfl (wo_mv (.tmp 5) (.slice pa5 ((jcL x.st).take i).length cap5) (fun _ => rfl) e5 (hK _ (Mo.refl _))))
     ·exact og_eq _ rfl (fun f wf hq hd K hK => go_run rfl (wo_un (fun v => Instr.fieldAt 24 v 1) (.tmp 1) (pt k1 0) (pt k1 1) (fun _ => rfl) e40_1 (by kernel_rfl) (hK _ (Mo.refl _))))
     ·exact og_eq _ rfl (fun f wf hq hd K hK => have Q1 := Q1.mo hq; go_run rfl (wo_load 22 (.tmp 41) (pt k1 1) (.slice x.pa x.st.length x.cap) rfl (hd 1 rfl) (run_one Q1 22 1 rfl Try.underlying22 rfl) (hK _ (Mo.refl _))))
     ·exact og_eq _ rfl (fun f wf hq hd K hK => go_run rfl (wo_mv (.tmp 6) (.int .i64 ((i + 1 : Nat) : Int)) (fun _ => rfl) e40_i (hK _ (Mo.refl _))))
     ·exact og_eq _ rfl (fun f wf hq hd K hK => go_run rfl (wo_bin (fun x y => Instr.indexAt 22 x y) (.tmp 42) (.tmp 43) (.slice x.pa x.st.length x.cap) (.int .i64 ((i + 1 : Nat) : Int)) (pt bp (op + (i + 1) * 18)) (fun _ => rfl) (hd 2 rfl) (hd 3 rfl) (ix22 (i := i + 1) hpp hil _) (hK _ (Mo.refl _))))
     ·exact og_eq _ rfl (fun f wf hq hd K hK => go_run rfl (wo_un (fun v => Instr.fieldAt 45 v 1) (.tmp 44) (pt bp (op + (i + 1) * 18)) (pt bp (op + (i + 1) * 18 + 6)) (fun _ => rfl) (hd 4 rfl) (by kernel_rfl) (hK _ (Mo.refl _))))
     ·exact og_eq _ rfl (fun f wf hq hd K hK => go_run rfl (wo_load 33 (.tmp 45) (pt bp (op + (i + 1) * 18 + 6)) (.agg (y1.b.cells).toArray) rfl (hd 5 rfl) (D.run_partR (hRp.mo (M.trans hq)).at' 33 6 6 (y1.b.cells) rfl Try.underlying33 rfl sz33) (hK _ (Mo.refl _))))
     ·exact og_eq _ rfl (fun f wf hq hd K hK => have Q2 := Q2.mo hq; go_run rfl (wo_load 33 (.tmp 7) (pt (kf41 16) 0) (.agg ((saysD y0 y1.a).d.cells).toArray) rfl rfl (run_row Q2 33 0 6 ((saysD y0 y1.a).d.cells) rfl Try.underlying33 rfl sz33) (hK _ (Mo.refl _))))
     ·exact og_eq _ rfl (fun f wf hq hd K hK => go_run rfl (wo_call 27 [(.tmp 46), (.tmp 47)] _ [.agg (y1.b.cells).toArray, .agg ((saysD y0 y1.a).d.cells).toArray] (.int .i64 (cmpD y1.b (saysD y0 y1.a).d)) rfl (li2 (hd 6 rfl) (hd 7 rfl)) (fun _ _ => by kernel_rfl) (pcmp_n (fit_of hT.ok hall hy1).2.1 ((good_says (fit_of hT.ok hall hy0) (fit_of hT.ok hall hy1).1).fit hf30p) _) hK))
    intro kf43 u43 hq hR hne
    replace Q1 := Q1.mo hq
    replace Q2 := Q2.mo hq
    replace M := M.trans hq
    clear hq hR hne
    refine wl_bs 56 1 [(0, (.tmp 48))] [(0, .int .i64 (cmpD y1.b (saysD y0 y1.a).d))] #[.int .i64 (cmpD y1.b (saysD y0 y1.a).d)] 3 rfl rfl (fun _ => by kernel_rfl) rfl ?_
    intro k3 u44 hk hz hq Q3
    have ne_k1_k3 : k1 ≠ k3 := by have := Q1.lt; omega
    have ne_k2_k3 : (kf41 16) ≠ k3 := by have := Q2.lt; omega
    have N_k3 : wl40.heap.size ≤ k3 := by have := M.size; omega
    replace Q1 := Q1.mo hq
    replace Q2 := Q2.mo hq
    replace M := M.trans hq
    clear hk hz hq
    replace hown := own_mo hown M
    have hal : ((jcL x.st).take i).length = i := by rw [List.length_take, jcL_len]; omega
    refine wl_app Try.underlying56 inf3 rfl (by decide) (.tmp 40) (.tmp 49) N9 (.slice pa5 ((jcL x.st).take i).length cap5) ((jcL x.st).take i).length (((jcL x.st).take i).flatMap ic) k3 1 1 [.int .i64 (cmpD y1.b (saysD y0 y1.a).d)] rfl rfl rfl hown rfl Q3 (fun u hu => by simp only [List.mem_cons, List.not_mem_nil, or_false] at hu; rw [hu]; rfl) (by decide) (by rw [hal]; unfold maxLen; omega) (by rw [hal]; omega) (by have := M.size; omega) rfl ?_
    intro v9 u45 hOw hm9 hbk
    have hlt9 := fun k e => own_lt hown (k := k) e
    have hb9 := fun k e => (own_lt hown0 (k := k) e).1
    replace MB := hm9.mo (MB.trans M) (fun k e => by have := (hlt9 k e).2; omega)
    replace Q1 := hm9.at Q1 (fun e => by have := (hlt9 _ e).2; omega)
    obtain ⟨pa6, cap6, rfl, _⟩ := own_form hOw
    replace hOw : u45.ownsRow N9 3 1 (.slice pa6 ((jcL x.st).take (i + 1)).length cap6) ((jcL x.st).take (i + 1)).length (((jcL x.st).take (i + 1)).flatMap ic) := by rw [take_next (jcL_at hy0 hy1)]; simpa [ic] using hOw
    rw [show ((jcL x.st).take i).length + 1 = ((jcL x.st).take (i + 1)).length by rw [take_next (jcL_at hy0 hy1)]; simp]
    refine wl_m (.tmp 50) (.slice pa6 ((jcL x.st).take (i + 1)).length cap6) ?_
    refine w_nil (xn_blk (xn_then (w_reg ?_)))
    refine wl_mv (.tmp 6) (.int .i64 ((i + 1 : Nat) : Int)) (fun _ => rfl) e40_i rfl ?_
    refine wl_b .add 3 (.tmp 19) (.const (.int .i64 (1))) (.int .i64 ((i + 1 : Nat) : Int)) (.int .i64 (1)) (.int .i64 ((i + 1 + 1 : Nat) : Int)) (add1r (k := i + 1) (by omega) _ _ _) ?_
    refine wl_m (.tmp 20) (.int .i64 ((i + 1 + 1 : Nat) : Int)) ?_
    refine w_nil ?_
    exact xn_loop (x.st.length - (i + 1)) (by omega) ⟨i + 1, rfl, by omega, e40_1, rfl, Q1, (fun k e => by have h8 := pt_inj (show pt (kf41 16) 0 = pt k 0 from e); have := Q2.lt; have := hm9.size; omega), (by have := hm9.size; have := M.size; omega), (ne_next hne hy0 hy1 hf30p), ⟨pa6, cap6, rfl, hOw⟩, MB⟩
   | false =>
    have hf30p := of_decide_eq_false hf30
    refine wl_b .neq 26 (.tmp 37) (.const (.int .i64 (0))) (.int .i64 ((saysD y0 y1.a).e)) (.int .i64 (0)) (.bool true) (ne34 hf30 _ _ _) ?_
    refine w_nil (xn_then (w_condT rfl (w_seq (w_reg ?_))))
    refine wl_m (.tmp 8) (.int .i64 ((saysD y0 y1.a).e)) ?_
    refine wl_m (.const (.slice none 0 0)) (.slice none 0 0) ?_
    refine wl_m (.tmp 39) (.int .i64 ((saysD y0 y1.a).e)) ?_
    refine w_nil (xn_then (w_ret (xr_then (xr_blk (xr_then (xr_then (xr_blk (xr_then ?_))))))))
    exact w_ret2 _ _ (.slice none 0 0) (.int .i64 ((saysD y0 y1.a).e)) rfl rfl rfl ⟨none, 0, by rw [show rsE x.st = (saysD y0 y1.a).e by unfold rsE; rw [if_pos hf0p, jE_at hy0 hy1 hne hf30p], if_neg hf30p]; rfl, by rw [show rsE x.st = (saysD y0 y1.a).e by unfold rsE; rw [if_pos hf0p, jE_at hy0 hy1 hne hf30p], if_neg hf30p]; exact ⟨Nat.zero_le _, fun _ _ e => by cases e⟩, MB.trans M⟩
  ·skip
   have hid : decide (i + 1 < x.st.length) = false := decide_eq_false hil
   have htk : ((jcL x.st).take i) = jcL x.st := List.take_of_length_le (by rw [jcL_len]; omega)
   refine w_seq (w_seq (w_reg ?_))
   refine wl_mv (.tmp 6) (.int .i64 ((i + 1 : Nat) : Int)) (fun _ => rfl) e40_i rfl ?_
   refine wl_un (fun v => Instr.fieldAt 24 v 1) (.tmp 1) (pt k1 0) (pt k1 1) (fun _ => rfl) e40_1 (by kernel_rfl) rfl ?_
   refine wl_l 22 (.tmp 15) (pt k1 1) (.slice x.pa x.st.length x.cap) (run_one Q1 22 1 rfl Try.underlying22 rfl) ?_
   refine wl_val (.int .i64 ((x.st.length : Nat) : Int)) (len22 _ _ _ _ _ (by exact rfl) _ _ _ _ _ _) rfl ?_
   refine wl_b .lss 3 (.tmp 14) (.tmp 17) (.int .i64 ((i + 1 : Nat) : Int)) (.int .i64 ((x.st.length : Nat) : Int)) (.bool false) (ltN hid _ _ _) ?_
   refine w_nil (xn_then (w_condF rfl (w_exit (xx_then (xx_then (xx_blk (xn_then (w_seq (w_reg ?_)))))))))
   refine wl_mv (.tmp 5) (.slice pa5 ((jcL x.st).take i).length cap5) (fun _ => rfl) e5 rfl ?_
   refine wl_m (.tmp 51) (.slice pa5 ((jcL x.st).take i).length cap5) ?_
   refine wl_m (.const (.int .i64 (0))) (.int .i64 (0)) ?_
   refine w_nil (xn_then (w_ret ?_))
   exact w_ret2 _ _ (.slice pa5 ((jcL x.st).take i).length cap5) (.int .i64 (0)) rfl rfl rfl ⟨pa5, cap5, by rw [show rsE x.st = 0 by unfold rsE; rw [if_pos hf0p]; exact ne_end hne (by omega), if_pos rfl, htk], by rw [show rsE x.st = 0 by unfold rsE; rw [if_pos hf0p]; exact ne_end hne (by omega), if_pos rfl]; have h9 := hown; rw [htk] at h9; exact own_sl (cells := ic) (L := jcL x.st) (fun _ => rfl) (by rw [jcL_len]; unfold maxLen; omega) h9, M⟩
 | false =>
  have hf0p := of_decide_eq_false hf0
  refine wl_b .neq 26 (.tmp 11) (.const (.int .i64 (0))) (.int .i64 (chkT x.st)) (.int .i64 (0)) (.bool true) (ne34 hf0 _ _ _) ?_
  refine w_nil (xn_then (w_condT rfl (w_seq (w_reg ?_))))
  refine wl_m (.tmp 4) (.int .i64 (chkT x.st)) ?_
  refine wl_m (.const (.slice none 0 0)) (.slice none 0 0) ?_
  refine wl_m (.tmp 13) (.int .i64 (chkT x.st)) ?_
  refine w_nil (xn_then (w_ret (xr_then ?_)))
  exact w_ret2 _ _ (.slice none 0 0) (.int .i64 (chkT x.st)) rfl rfl rfl ⟨none, 0, by rw [show rsE x.st = chkT x.st by unfold rsE; rw [if_neg hf0p], if_neg hf0p]; rfl, by rw [show rsE x.st = chkT x.st by unfold rsE; rw [if_neg hf0p], if_neg hf0p]; exact ⟨Nat.zero_le _, fun _ _ e => by cases e⟩, M⟩
end Go.Proofs.Ythehmmhnacomkaa
namespace Go.Proofs.Ythehmmhnacomkaa
open Go.RowKit D
def cont (l : List Int) (v : Int) : Bool := l.any (fun x => decide (v = x))
theorem cont_t {l : List Int} {v a : Int} {i : Nat} (h : l[i]? = some a) (e : v = a) : cont l v = true := by
 unfold cont; rw [List.any_eq_true]; exact ⟨a, List.mem_of_getElem? h, by simp [e]⟩
theorem cont_f {l : List Int} {v : Int} (h : ∀ j < l.length, ∀ a, l[j]? = some a → ¬ v = a) : cont l v = false := by
 unfold cont; rw [List.any_eq_false]
 intro a ha
 obtain ⟨j, hj⟩ := List.getElem?_of_mem ha
 simp [h j (lt_of_get hj) a hj]
theorem no_next {α : Type} {l : List α} {p : α → Prop} {a : α} {i : Nat} (h : ∀ j < i, ∀ a, l[j]? = some a → p a) (ha : l[i]? = some a) (hv : p a) : ∀ j < i + 1, ∀ a, l[j]? = some a → p a := by
 intro j hj b hb
 by_cases e : j = i
 ·subst e; rw [ha] at hb; cases hb; exact hv
 ·exact h j (by omega) b hb
theorem any_t {L : List Stp} {a : Stp} {i : Nat} (h : L[i]? = some a) (e : fl a = true) : L.any fl = true := by
 rw [List.any_eq_true]; exact ⟨a, List.mem_of_getElem? h, e⟩
theorem any_f {L : List Stp} (h : ∀ j < L.length, ∀ a, L[j]? = some a → fl a = false) : L.any fl = false := by
 rw [List.any_eq_false]
 intro a ha
 obtain ⟨j, hj⟩ := List.getElem?_of_mem ha
 simp [h j (lt_of_get hj) a hj]
theorem index_n {L9 : List Int} {pa : Option Addr} {ca : Nat} (w : World) (v : Int) (hL : SI w pa L9) : Calls Try.prog 58 #[.slice pa L9.length ca, .int .i64 v] w fun e9 w' => ∃ r : Int, e9 = .returned (.int .i64 r) ∧ decide (0 ≤ r) = cont L9 v ∧ Mo w w' := by
 refine w_enter 19 Try.func58 Try.ntmps58 rfl rfl ?_
 have M : Mo w w := Mo.refl _
 refine w_seq (w_reg ?_)
 refine wl_m (.const (.int .i64 (0))) (.int .i64 (0)) ?_
 refine w_nil (xn_then (w_seq (w_seq (w_reg ?_))))
 refine wl_m (.tmp 0) (.slice pa L9.length ca) ?_
 refine wl_val (.int .i64 ((L9.length : Nat) : Int)) (len56 _ _ _ _ _ (by exact rfl) _ _ _ _ _ _) rfl ?_
 refine wl_m (.const (.int .i64 (0))) (.int .i64 (0)) ?_
 refine w_nil (xn_then (w_block ?_))
 have hz9 := hL.1
 unfold maxLen at hz9
 refine w_loop (fun m l w1 => ∃ i : Nat, m = L9.length - i ∧ i ≤ L9.length ∧ look l 0 = .slice pa L9.length ca ∧ look l 1 = .int .i64 (v) ∧ look l 6 = .slice pa L9.length ca ∧ look l 7 = .int .i64 ((L9.length : Nat) : Int) ∧ look l 8 = .int .i64 ((i : Nat) : Int) ∧ (∀ j < i, ∀ a, L9[j]? = some a → ¬ v = a) ∧ Mo w w1) _ ⟨0, rfl, Nat.zero_le _, rfl, rfl, rfl, rfl, rfl, (fun j hj => absurd hj (Nat.not_lt_zero j)), M⟩ ?_
 clear M
 rintro m l40 wl40 ⟨i, rfl, hi, e40_0, e40_1, e40_6, e40_7, e40_i, hno, M⟩
 by_cases hil : i < L9.length
 ·skip
  have hid : decide (i < L9.length) = true := decide_eq_true hil
  obtain ⟨a, ha⟩ := get_of_lt hil
  obtain ⟨bp, op, hpp, hRp⟩ := D.SL.rw hL ha
  refine w_seq (w_reg ?_)
  refine wl_bin (fun x y => do eqGuard .lss 3 (.tmp 8) (.tmp 7) x y; binOp .lss 3 x y) (.tmp 8) (.tmp 7) (.int .i64 ((i : Nat) : Int)) (.int .i64 ((L9.length : Nat) : Int)) (.bool true) (fun _ => rfl) e40_i e40_7 (ltN hid _ _ _) rfl ?_
  refine w_nil (xn_then (w_seq (w_condT rfl (w_skip (xn_then (w_seq (w_block (w_seq (w_reg ?_)))))))))
  refine wl_mv (.tmp 8) (.int .i64 ((i : Nat) : Int)) (fun _ => rfl) e40_i rfl ?_
  refine wl_m (.tmp 10) (.int .i64 ((i : Nat) : Int)) ?_
  refine w_nil (xn_then (w_seq (w_reg ?_)))
  refine wl_mv (.tmp 1) (.int .i64 (v)) (fun _ => rfl) e40_1 rfl ?_
  refine wl_mv (.tmp 0) (.slice pa L9.length ca) (fun _ => rfl) e40_0 rfl ?_
  refine wl_m (.tmp 5) (.int .i64 ((i : Nat) : Int)) ?_
  refine wl_bin (fun x y => Instr.indexAt 56 x y) (.tmp 12) (.tmp 13) (.slice pa L9.length ca) (.int .i64 ((i : Nat) : Int)) (pt bp (op + i * 1)) (fun _ => rfl) rfl rfl (ix56 (i := i) hpp hil _) rfl ?_
  refine wl_l 3 (.tmp 14) (pt bp (op + i * 1)) (.int .i64 (a)) (D.run_oneR (hRp.mo M).at' 3 0 rfl Try.underlying3 rfl) ?_
  cases hf30 : decide (v = a) with
  | true =>
   have hf30p := of_decide_eq_true hf30
   refine wl_b .eql 3 (.tmp 11) (.tmp 15) (.int .i64 (v)) (.int .i64 (a)) (.bool true) (eq3 hf30 _ _ _) ?_
   refine w_nil (xn_then (w_condT rfl (w_seq (w_reg ?_))))
   refine wl_m (.tmp 5) (.int .i64 ((i : Nat) : Int)) ?_
   refine wl_m (.tmp 17) (.int .i64 ((i : Nat) : Int)) ?_
   refine w_nil (xn_then (w_ret (xr_blk (xr_then (xr_then (xr_blk (xr_then ?_)))))))
   exact w_ret1 _ (.int .i64 ((i : Nat) : Int)) rfl rfl ⟨_, rfl, by rw [cont_t ha hf30p]; simp, M⟩
  | false =>
   have hf30p := of_decide_eq_false hf30
   refine wl_b .eql 3 (.tmp 11) (.tmp 15) (.int .i64 (v)) (.int .i64 (a)) (.bool false) (eq3 hf30 _ _ _) ?_
   refine w_nil (xn_then (w_condF rfl (w_skip (xn_blk (xn_then (w_reg ?_))))))
   refine wl_bin (fun x y => do eqGuard .add 3 (.tmp 8) (.const (.int .i64 (1))) x y; binOp .add 3 x y) (.tmp 8) (.const (.int .i64 (1))) (.int .i64 ((i : Nat) : Int)) (.int .i64 (1)) (.int .i64 ((i + 1 : Nat) : Int)) (fun _ => rfl) e40_i rfl (add1r (k := i) (by omega) _ _ _) rfl ?_
   refine wl_m (.tmp 18) (.int .i64 ((i + 1 : Nat) : Int)) ?_
   refine w_nil ?_
   exact xn_loop (L9.length - (i + 1)) (by omega) ⟨i + 1, rfl, by omega, e40_0, e40_1, e40_6, e40_7, rfl, (no_next hno ha hf30p), M⟩
 ·skip
  have hid : decide (i < L9.length) = false := decide_eq_false hil
  have hie : i = L9.length := by omega
  refine w_seq (w_reg ?_)
  refine wl_bin (fun x y => do eqGuard .lss 3 (.tmp 8) (.tmp 7) x y; binOp .lss 3 x y) (.tmp 8) (.tmp 7) (.int .i64 ((i : Nat) : Int)) (.int .i64 ((L9.length : Nat) : Int)) (.bool false) (fun _ => rfl) e40_i e40_7 (ltN hid _ _ _) rfl ?_
  refine w_nil (xn_then (w_seq (w_condF rfl (w_exit (xx_then (xx_then (xx_blk (xn_then (w_seq (w_reg ?_))))))))))
  refine wl_m (.const (.int .i64 (-1))) (.int .i64 (-1)) ?_
  refine w_nil (xn_then (w_ret ?_))
  exact w_ret1 _ (.int .i64 (-1)) rfl rfl ⟨_, rfl, by rw [cont_f (by rw [← hie]; exact hno)]; decide, M⟩
theorem cont_n {L9 : List Int} {pa : Option Addr} {ca : Nat} (w : World) (v : Int) (hL : SI w pa L9) : Calls Try.prog 36 #[.slice pa L9.length ca, .int .i64 v] w fun e9 w' => e9 = .returned (.bool (cont L9 v)) ∧ Mo w w' := by
 refine w_enter 9 Try.func36 Try.ntmps36 rfl rfl ?_
 have M : Mo w w := Mo.refl _
 refine w_seq (w_reg ?_)
 refine wl_m (.const (.bool false)) (.bool false) ?_
 refine w_nil (xn_then (w_seq (w_reg ?_)))
 refine wl_m (.tmp 0) (.slice pa L9.length ca) ?_
 refine wl_m (.tmp 1) (.int .i64 (v)) ?_
 refine wl_callx 58 [(.tmp 5), (.tmp 6)] _ [.slice pa L9.length ca, .int .i64 (v)] rfl rfl (fun _ _ => by kernel_rfl) (index_n _ v hL) rfl ?_
 rintro e9 u1 ⟨r, rfl, hr, hq⟩
 refine ⟨_, rfl, ?_⟩
 replace M := M.trans hq
 clear hq
 cases hf0 : decide (0 ≤ r) with
 | true =>
  have hf0p := of_decide_eq_true hf0
  refine wl_b .geq 3 (.tmp 7) (.const (.int .i64 (0))) (.int .i64 (r)) (.int .i64 (0)) (.bool true) (ge3 hf0 _ _ _) ?_
  refine wl_m (.tmp 8) (.bool true) ?_
  refine w_nil (xn_then (w_ret ?_))
  exact w_ret1 _ (.bool true) rfl rfl ⟨congrArg (fun v => Ending.returned (.bool v)) (hf0.symm.trans hr), M⟩
 | false =>
  have hf0p := of_decide_eq_false hf0
  refine wl_b .geq 3 (.tmp 7) (.const (.int .i64 (0))) (.int .i64 (r)) (.int .i64 (0)) (.bool false) (ge3 hf0 _ _ _) ?_
  refine wl_m (.tmp 8) (.bool false) ?_
  refine w_nil (xn_then (w_ret ?_))
  exact w_ret1 _ (.bool false) rfl rfl ⟨congrArg (fun v => Ending.returned (.bool v)) (hf0.symm.trans hr), M⟩
theorem falls_n {s : Stp} (w : World) (hs : s.ok) : Calls Try.prog 38 #[s.v] w fun e9 w' => e9 = .returned (.bool (fl s)) ∧ Mo w w' := by
 refine w_enter 7 Try.func38 Try.ntmps38 rfl rfl ?_
 have M : Mo w w := Mo.refl _
 refine w_seq (w_reg ?_)
 refine wl_box 45 (.tmp 0) _ (((s.cells).toArray)) rfl rfl (fun _ => by kernel_rfl) rfl ?_
 intro k1 u1 hk hz hq Q1
 have N_k1 : w.heap.size ≤ k1 := by have := M.size; omega
 replace M := M.trans hq
 clear hk hz hq
 refine wl_m (.const (.bool false)) (.bool false) ?_
 refine w_nil (xn_then (w_seq (w_reg ?_)))
 refine wl_f 45 2 (.tmp 1) (pt k1 0) (pt k1 12) ?_
 refine wl_l 33 (.tmp 3) (pt k1 12) (.agg (s.c.cells).toArray) (run_row Q1 33 12 6 (s.c.cells) rfl Try.underlying33 rfl sz33) ?_
 refine wl_call 46 [(.tmp 4)] _ [.agg (s.c.cells).toArray] (.int .i64 (sg s.c.b s.c.n)) rfl rfl (fun _ _ => by kernel_rfl) (psgn_n hs.2.2 _) rfl ?_
 intro u2 hq
 replace Q1 := Q1.mo hq
 replace M := M.trans hq
 clear hq
 cases hf0 : decide (sg s.c.b s.c.n < 0) with
 | true =>
  have hf0p := of_decide_eq_true hf0
  refine wl_b .lss 3 (.tmp 5) (.const (.int .i64 (0))) (.int .i64 (sg s.c.b s.c.n)) (.int .i64 (0)) (.bool true) (lt3 hf0 _ _ _) ?_
  refine wl_m (.tmp 6) (.bool true) ?_
  refine w_nil (xn_then (w_ret ?_))
  exact w_ret1 _ (.bool true) rfl rfl ⟨congrArg (fun v => Ending.returned (.bool v)) (by unfold fl; rw [hf0]), M⟩
 | false =>
  have hf0p := of_decide_eq_false hf0
  refine wl_b .lss 3 (.tmp 5) (.const (.int .i64 (0))) (.int .i64 (sg s.c.b s.c.n)) (.int .i64 (0)) (.bool false) (lt3 hf0 _ _ _) ?_
  refine wl_m (.tmp 6) (.bool false) ?_
  refine w_nil (xn_then (w_ret ?_))
  exact w_ret1 _ (.bool false) rfl rfl ⟨congrArg (fun v => Ending.returned (.bool v)) (by unfold fl; rw [hf0]), M⟩
theorem indexf_n {x : Tb} (w : World) (hT : LT w x) : Calls Try.prog 59 #[.slice x.pa x.st.length x.cap, .func (.func 38) #[] #[]] w fun e9 w' => ∃ r : Int, e9 = .returned (.int .i64 r) ∧ decide (0 ≤ r) = x.st.any fl ∧ Mo w w' := by
 refine w_enter 19 Try.func59 Try.ntmps59 rfl rfl ?_
 have M : Mo w w := Mo.refl _
 refine w_seq (w_reg ?_)
 refine wl_m (.const (.int .i64 (0))) (.int .i64 (0)) ?_
 refine w_nil (xn_then (w_seq (w_seq (w_reg ?_))))
 refine wl_m (.tmp 0) (.slice x.pa x.st.length x.cap) ?_
 refine wl_val (.int .i64 ((x.st.length : Nat) : Int)) (len22 _ _ _ _ _ (by exact rfl) _ _ _ _ _ _) rfl ?_
 refine wl_m (.const (.int .i64 (0))) (.int .i64 (0)) ?_
 refine w_nil (xn_then (w_block ?_))
 have hz9 := hT.sl.1
 unfold maxLen at hz9
 refine w_loop (fun m l w1 => ∃ i : Nat, m = x.st.length - i ∧ i ≤ x.st.length ∧ look l 0 = .slice x.pa x.st.length x.cap ∧ look l 1 = .func (.func 38) #[] #[] ∧ look l 6 = .slice x.pa x.st.length x.cap ∧ look l 7 = .int .i64 ((x.st.length : Nat) : Int) ∧ look l 8 = .int .i64 ((i : Nat) : Int) ∧ (∀ j < i, ∀ a, x.st[j]? = some a → fl a = false) ∧ Mo w w1) _ ⟨0, rfl, Nat.zero_le _, rfl, rfl, rfl, rfl, rfl, (fun j hj => absurd hj (Nat.not_lt_zero j)), M⟩ ?_
 clear M
 rintro m l40 wl40 ⟨i, rfl, hi, e40_0, e40_1, e40_6, e40_7, e40_i, hno, M⟩
 by_cases hil : i < x.st.length
 ·skip
  have hid : decide (i < x.st.length) = true := decide_eq_true hil
  obtain ⟨y, hy⟩ := get_of_lt hil
  have hmy := List.mem_of_getElem? hy
  obtain ⟨bp, op, hpp, hRp⟩ := D.SL.rw hT.sl hy
  refine w_seq (w_reg ?_)
  refine wl_bin (fun x y => do eqGuard .lss 3 (.tmp 8) (.tmp 7) x y; binOp .lss 3 x y) (.tmp 8) (.tmp 7) (.int .i64 ((i : Nat) : Int)) (.int .i64 ((x.st.length : Nat) : Int)) (.bool true) (fun _ => rfl) e40_i e40_7 (ltN hid _ _ _) rfl ?_
  refine w_nil (xn_then (w_seq (w_condT rfl (w_skip (xn_then (w_seq (w_block (w_seq (w_reg ?_)))))))))
  refine wl_mv (.tmp 8) (.int .i64 ((i : Nat) : Int)) (fun _ => rfl) e40_i rfl ?_
  refine wl_m (.tmp 10) (.int .i64 ((i : Nat) : Int)) ?_
  refine w_nil (xn_then (w_seq (w_reg ?_)))
  refine wl_mv (.tmp 1) (.func (.func 38) #[] #[]) (fun _ => rfl) e40_1 rfl ?_
  refine wl_mv (.tmp 0) (.slice x.pa x.st.length x.cap) (fun _ => rfl) e40_0 rfl ?_
  refine wl_m (.tmp 5) (.int .i64 ((i : Nat) : Int)) ?_
  refine wl_bin (fun x y => Instr.indexAt 22 x y) (.tmp 12) (.tmp 13) (.slice x.pa x.st.length x.cap) (.int .i64 ((i : Nat) : Int)) (pt bp (op + i * 18)) (fun _ => rfl) rfl rfl (ix22 (i := i) hpp hil _) rfl ?_
  refine wl_l 45 (.tmp 14) (pt bp (op + i * 18)) (.agg (y.cells).toArray) (D.run_partR (hRp.mo M).at' 45 0 18 (y.cells) rfl Try.underlying45 rfl sz45) ?_
  refine wl_callv 38 (.tmp 11) #[] #[] [(.tmp 15)] _ [.agg (y.cells).toArray] [.agg (y.cells).toArray] rfl rfl rfl rfl (fun _ _ => by kernel_rfl) (falls_n _ (hT.ok y hmy)) rfl ?_
  rintro e9 u41 ⟨rfl, hq⟩
  refine ⟨_, rfl, ?_⟩
  replace M := M.trans hq
  clear hq
  refine w_nil (xn_then ?_)
  cases hf30 : fl y with
  | true =>
   refine w_condT rfl (w_seq (w_reg ?_))
   refine wl_m (.tmp 5) (.int .i64 ((i : Nat) : Int)) ?_
   refine wl_m (.tmp 17) (.int .i64 ((i : Nat) : Int)) ?_
   refine w_nil (xn_then (w_ret (xr_blk (xr_then (xr_then (xr_blk (xr_then ?_)))))))
   exact w_ret1 _ (.int .i64 ((i : Nat) : Int)) rfl rfl ⟨_, rfl, by rw [any_t hy hf30]; simp, M⟩
  | false =>
   refine w_condF rfl (w_skip (xn_blk (xn_then (w_reg ?_))))
   refine wl_bin (fun x y => do eqGuard .add 3 (.tmp 8) (.const (.int .i64 (1))) x y; binOp .add 3 x y) (.tmp 8) (.const (.int .i64 (1))) (.int .i64 ((i : Nat) : Int)) (.int .i64 (1)) (.int .i64 ((i + 1 : Nat) : Int)) (fun _ => rfl) e40_i rfl (add1r (k := i) (by omega) _ _ _) rfl ?_
   refine wl_m (.tmp 18) (.int .i64 ((i + 1 : Nat) : Int)) ?_
   refine w_nil ?_
   exact xn_loop (x.st.length - (i + 1)) (by omega) ⟨i + 1, rfl, by omega, e40_0, e40_1, e40_6, e40_7, rfl, (no_next hno hy hf30), M⟩
 ·skip
  have hid : decide (i < x.st.length) = false := decide_eq_false hil
  have hie : i = x.st.length := by omega
  refine w_seq (w_reg ?_)
  refine wl_bin (fun x y => do eqGuard .lss 3 (.tmp 8) (.tmp 7) x y; binOp .lss 3 x y) (.tmp 8) (.tmp 7) (.int .i64 ((i : Nat) : Int)) (.int .i64 ((x.st.length : Nat) : Int)) (.bool false) (fun _ => rfl) e40_i e40_7 (ltN hid _ _ _) rfl ?_
  refine w_nil (xn_then (w_seq (w_condF rfl (w_exit (xx_then (xx_then (xx_blk (xn_then (w_seq (w_reg ?_))))))))))
  refine wl_m (.const (.int .i64 (-1))) (.int .i64 (-1)) ?_
  refine w_nil (xn_then (w_ret ?_))
  exact w_ret1 _ (.int .i64 (-1)) rfl rfl ⟨_, rfl, by rw [any_f (by rw [← hie]; exact hno)]; decide, M⟩
theorem contf_n {x : Tb} (w : World) (hT : LT w x) : Calls Try.prog 37 #[.slice x.pa x.st.length x.cap, .func (.func 38) #[] #[]] w fun e9 w' => e9 = .returned (.bool (x.st.any fl)) ∧ Mo w w' := by
 refine w_enter 9 Try.func37 Try.ntmps37 rfl rfl ?_
 have M : Mo w w := Mo.refl _
 refine w_seq (w_reg ?_)
 refine wl_m (.const (.bool false)) (.bool false) ?_
 refine w_nil (xn_then (w_seq (w_reg ?_)))
 refine wl_m (.tmp 0) (.slice x.pa x.st.length x.cap) ?_
 refine wl_m (.tmp 1) (.func (.func 38) #[] #[]) ?_
 refine wl_callx 59 [(.tmp 5), (.tmp 6)] _ [.slice x.pa x.st.length x.cap, .func (.func 38) #[] #[]] rfl rfl (fun _ _ => by kernel_rfl) (indexf_n _ hT) rfl ?_
 rintro e9 u1 ⟨r, rfl, hr, hq⟩
 refine ⟨_, rfl, ?_⟩
 replace M := M.trans hq
 clear hq
 cases hf0 : decide (0 ≤ r) with
 | true =>
  have hf0p := of_decide_eq_true hf0
  refine wl_b .geq 3 (.tmp 7) (.const (.int .i64 (0))) (.int .i64 (r)) (.int .i64 (0)) (.bool true) (ge3 hf0 _ _ _) ?_
  refine wl_m (.tmp 8) (.bool true) ?_
  refine w_nil (xn_then (w_ret ?_))
  exact w_ret1 _ (.bool true) rfl rfl ⟨congrArg (fun v => Ending.returned (.bool v)) (hf0.symm.trans hr), M⟩
 | false =>
  have hf0p := of_decide_eq_false hf0
  refine wl_b .geq 3 (.tmp 7) (.const (.int .i64 (0))) (.int .i64 (r)) (.int .i64 (0)) (.bool false) (ge3 hf0 _ _ _) ?_
  refine wl_m (.tmp 8) (.bool false) ?_
  refine w_nil (xn_then (w_ret ?_))
  exact w_ret1 _ (.bool false) rfl rfl ⟨congrArg (fun v => Ending.returned (.bool v)) (hf0.symm.trans hr), M⟩
def upB (ris : Bool) (n : Int) : Bool := !decide (n < 0) && (ris || !decide (0 < n))
def rsB (ris : Bool) (L : List Stp) : Bool := if rsE L = 0 then ((jcL L).all (upB ris) && L.all (fun s => !(ris && fl s))) else false
theorem all_up {l : List Int} (h : ∀ n ∈ l, n = -1 ∨ n = 0 ∨ n = 1) : l.all (upB true) = !cont l (-1) ∧ l.all (upB false) = (!cont l (-1) && !cont l 1) := by
 induction l with
 | nil => exact ⟨rfl, rfl⟩
 | cons n l ih =>
  obtain ⟨i1, i2⟩ := ih (fun m hm => h m (List.mem_cons_of_mem _ hm))
  unfold cont at i1 i2 ⊢
  simp only [List.all_cons, List.any_cons, i1, i2]
  rcases h n List.mem_cons_self with rfl | rfl | rfl <;> simp [upB]
theorem all_fl : ∀ L : List Stp, L.all (fun s => !(true && fl s)) = !L.any fl
 | [] => rfl
 | a :: L => by rw [List.all_cons, List.any_cons, all_fl L]; cases fl a <;> rfl
theorem rs_t {L : List Stp} (h : rsE L = 0) : rsB true L = (!cont (jcL L) (-1) && !L.any fl) := by
 unfold rsB
 rw [if_pos h, (all_up (fun n hn => jcL_or hn)).1]
 rw [all_fl]
theorem rs_no {L : List Stp} {ris : Bool} (h : ¬ rsE L = 0) : rsB ris L = false := by unfold rsB; rw [if_neg h]
theorem rs_ret {a b : Bool} {c d : Int} (h1 : a = b) (h2 : c = d) : Ending.returned (.tuple #[.bool a, .int .i64 c]) = .returned (.tuple #[.bool b, .int .i64 d]) := by rw [h1, h2]
theorem pris_n {x : Tb} (w : World) (hT : LT w x) : Calls Try.prog 19 #[.agg (x.cells).toArray] w fun e9 w' => e9 = .returned (.tuple #[.bool (rsB true x.st), .int .i64 (rsE x.st)]) ∧ Mo w w' := by
 refine w_enter 23 Try.func19 Try.ntmps19 rfl rfl ?_
 have M : Mo w w := Mo.refl _
 refine w_seq (w_reg ?_)
 refine wl_box 24 (.tmp 0) _ (((x.cells).toArray)) rfl rfl (fun _ => by kernel_rfl) rfl ?_
 intro k1 u1 hk hz hq Q1
 have N_k1 : w.heap.size ≤ k1 := by have := M.size; omega
 replace M := M.trans hq
 clear hk hz hq
 refine wl_m (.const (.bool false)) (.bool false) ?_
 refine wl_m (.const (.int .i64 (0))) (.int .i64 (0)) ?_
 refine w_nil (xn_then (w_seq (w_reg ?_)))
 refine wl_l 24 (.tmp 1) (pt k1 0) (.agg (x.cells).toArray) (run_row Q1 24 0 2 (x.cells) rfl Try.underlying24 rfl szT24) ?_
 refine wl_callx 35 [(.tmp 7)] _ [.agg (x.cells).toArray] rfl rfl (fun _ _ => by kernel_rfl) (jumps_n _ (hT.mo M)) rfl ?_
 rintro e9 u2 ⟨pj, cj, rfl, hL, hq⟩
 refine ⟨_, rfl, ?_⟩
 replace Q1 := Q1.mo hq
 replace M := M.trans hq
 clear hq
 refine wl_m (.tmp 8) (.tuple #[.slice pj (if rsE x.st = 0 then jcL x.st else []).length cj, .int .i64 (rsE x.st)]) ?_
 refine wl_un (fun v => Instr.extract v 0) (.tmp 6) (.tuple #[.slice pj (if rsE x.st = 0 then jcL x.st else []).length cj, .int .i64 (rsE x.st)]) (.slice pj (if rsE x.st = 0 then jcL x.st else []).length cj) (fun _ => rfl) rfl (by kernel_rfl) rfl ?_
 refine wl_un (fun v => Instr.extract v 1) (.tmp 6) (.tuple #[.slice pj (if rsE x.st = 0 then jcL x.st else []).length cj, .int .i64 (rsE x.st)]) (.int .i64 (rsE x.st)) (fun _ => rfl) rfl (by kernel_rfl) rfl ?_
 refine wl_m (.tmp 9) (.slice pj (if rsE x.st = 0 then jcL x.st else []).length cj) ?_
 refine wl_m (.tmp 10) (.int .i64 (rsE x.st)) ?_
 refine w_nil (xn_then (w_seq (w_seq (w_reg ?_))))
 refine wl_m (.tmp 5) (.int .i64 (rsE x.st)) ?_
 cases hf0 : decide (rsE x.st = 0) with
 | true =>
  have hf0p := of_decide_eq_true hf0
  refine wl_b .neq 26 (.tmp 11) (.const (.int .i64 (0))) (.int .i64 (rsE x.st)) (.int .i64 (0)) (.bool false) (ne34 hf0 _ _ _) ?_
  refine w_nil (xn_then (w_condF rfl (w_skip (xn_then (w_seq (w_reg ?_))))))
  refine wl_m (.tmp 4) (.slice pj (if rsE x.st = 0 then jcL x.st else []).length cj) ?_
  cases hf1 : cont (if rsE x.st = 0 then jcL x.st else []) (-1) with
  | true =>
   refine wl_call 36 [(.tmp 14), (.const (.int .i64 (-1)))] _ [.slice pj (if rsE x.st = 0 then jcL x.st else []).length cj, .int .i64 (-1)] (.bool true) rfl rfl (fun _ _ => by kernel_rfl) (cB hf1 (cont_n _ (-1) hL)) rfl ?_
   intro u3 hq
   replace Q1 := Q1.mo hq
   replace hL := hL.kp hq.kp
   replace M := M.trans hq
   clear hq
   refine wl_un (fun v => Op.unary .not v) (.tmp 15) (.bool true) (.bool false) (fun _ => rfl) rfl (by kernel_rfl) rfl ?_
   refine wl_m (.tmp 16) (.bool false) ?_
   refine wl_skip rfl (wl_skip rfl (wl_skip rfl (wl_skip rfl ?_)))
   refine wl_pick (.tmp 17) (.tmp 21) (.const (.bool false)) false (.bool false) (fun _ => rfl) rfl rfl rfl ?_
   refine wl_m (.tmp 22) (.bool false) ?_
   refine wl_m (.const (.int .i64 (0))) (.int .i64 (0)) ?_
   refine w_nil (xn_then (w_ret ?_))
   exact w_ret2 _ _ (.bool false) (.int .i64 (0)) rfl rfl rfl ⟨rs_ret (by rw [rs_t hf0p, (show cont (jcL x.st) (-1) = true from by have h9 := hf1; rw [if_pos hf0p] at h9; exact h9)]; rfl) hf0p.symm, M⟩
  | false =>
   refine wl_call 36 [(.tmp 14), (.const (.int .i64 (-1)))] _ [.slice pj (if rsE x.st = 0 then jcL x.st else []).length cj, .int .i64 (-1)] (.bool false) rfl rfl (fun _ _ => by kernel_rfl) (cB hf1 (cont_n _ (-1) hL)) rfl ?_
   intro u3 hq
   replace Q1 := Q1.mo hq
   replace hL := hL.kp hq.kp
   replace M := M.trans hq
   clear hq
   refine wl_un (fun v => Op.unary .not v) (.tmp 15) (.bool false) (.bool true) (fun _ => rfl) rfl (by kernel_rfl) rfl ?_
   refine wl_m (.tmp 16) (.bool true) ?_
   refine wl_f 24 1 (.tmp 1) (pt k1 0) (pt k1 1) ?_
   refine wl_l 22 (.tmp 18) (pt k1 1) (.slice x.pa x.st.length x.cap) (run_one Q1 22 1 rfl Try.underlying22 rfl) ?_
   cases hf2 : x.st.any fl with
   | true =>
    refine wl_call 37 [(.tmp 19), (.func 38)] _ [.slice x.pa x.st.length x.cap, .func (.func 38) #[] #[]] (.bool true) rfl rfl (fun _ _ => by kernel_rfl) (cB hf2 (contf_n _ (hT.mo M))) rfl ?_
    intro u4 hq
    replace Q1 := Q1.mo hq
    replace hL := hL.kp hq.kp
    replace M := M.trans hq
    clear hq
    refine wl_un (fun v => Op.unary .not v) (.tmp 20) (.bool true) (.bool false) (fun _ => rfl) rfl (by kernel_rfl) rfl ?_
    refine wl_pick (.tmp 17) (.tmp 21) (.const (.bool false)) true (.bool false) (fun _ => rfl) rfl rfl rfl ?_
    refine wl_m (.tmp 22) (.bool false) ?_
    refine wl_m (.const (.int .i64 (0))) (.int .i64 (0)) ?_
    refine w_nil (xn_then (w_ret ?_))
    exact w_ret2 _ _ (.bool false) (.int .i64 (0)) rfl rfl rfl ⟨rs_ret (by rw [rs_t hf0p, (show cont (jcL x.st) (-1) = false from by have h9 := hf1; rw [if_pos hf0p] at h9; exact h9), hf2]; rfl) hf0p.symm, M⟩
   | false =>
    refine wl_call 37 [(.tmp 19), (.func 38)] _ [.slice x.pa x.st.length x.cap, .func (.func 38) #[] #[]] (.bool false) rfl rfl (fun _ _ => by kernel_rfl) (cB hf2 (contf_n _ (hT.mo M))) rfl ?_
    intro u4 hq
    replace Q1 := Q1.mo hq
    replace hL := hL.kp hq.kp
    replace M := M.trans hq
    clear hq
    refine wl_un (fun v => Op.unary .not v) (.tmp 20) (.bool false) (.bool true) (fun _ => rfl) rfl (by kernel_rfl) rfl ?_
    refine wl_pick (.tmp 17) (.tmp 21) (.const (.bool false)) true (.bool true) (fun _ => rfl) rfl rfl rfl ?_
    refine wl_m (.tmp 22) (.bool true) ?_
    refine wl_m (.const (.int .i64 (0))) (.int .i64 (0)) ?_
    refine w_nil (xn_then (w_ret ?_))
    exact w_ret2 _ _ (.bool true) (.int .i64 (0)) rfl rfl rfl ⟨rs_ret (by rw [rs_t hf0p, (show cont (jcL x.st) (-1) = false from by have h9 := hf1; rw [if_pos hf0p] at h9; exact h9), hf2]; rfl) hf0p.symm, M⟩
 | false =>
  have hf0p := of_decide_eq_false hf0
  refine wl_b .neq 26 (.tmp 11) (.const (.int .i64 (0))) (.int .i64 (rsE x.st)) (.int .i64 (0)) (.bool true) (ne34 hf0 _ _ _) ?_
  refine w_nil (xn_then (w_condT rfl (w_seq (w_reg ?_))))
  refine wl_m (.tmp 5) (.int .i64 (rsE x.st)) ?_
  refine wl_m (.const (.bool false)) (.bool false) ?_
  refine wl_m (.tmp 13) (.int .i64 (rsE x.st)) ?_
  refine w_nil (xn_then (w_ret (xr_then ?_)))
  exact w_ret2 _ _ (.bool false) (.int .i64 (rsE x.st)) rfl rfl rfl ⟨rs_ret (rs_no hf0p).symm rfl, M⟩
end Go.Proofs.Ythehmmhnacomkaa
namespace Go.Proofs.Ythehmmhnacomkaa
open Go.RowKit D
theorem sgn_ab (V : Int) : sgn (decide (V < 0)) (ab V) = V := by
 unfold sgn ab
 by_cases h : V < 0 <;> simp [h]
theorem fz_e {V S : Int} (h : (fzR V S).e = 0) : (fzR V S).d.z = V ∧ (fzR V S).d.s = S := by
 unfold fzR at h ⊢
 split
 ·exact ⟨sgn_ab V, rfl⟩
 next q => rw [if_neg q] at h; exact absurd h (by decide)
theorem q_max {x y : Dn} (hx : x.fit) (hy : y.fit) : addV x.z x.s y.z y.s * pw (18 - max x.s y.s) = x.q + y.q := by
 obtain ⟨a0, a1⟩ := hx.s
 obtain ⟨b0, b1⟩ := hy.s
 unfold addV Dn.q
 rw [Int.add_mul, Int.mul_assoc, Int.mul_assoc, pw_join (by omega) (by omega), pw_join (by omega) (by omega)]
theorem add_q {x y : Dn} (hx : x.fit) (hy : y.fit) (h : (addD x y).e = 0) : (addD x y).d.q = x.q + y.q := by
 obtain ⟨h1, h2⟩ := fz_e h
 have e : (addD x y).d.q = (addD x y).d.z * pw (18 - (addD x y).d.s) := rfl
 rw [e]
 unfold addD
 rw [h1, h2, q_max hx hy]
theorem sub_q {x y : Dn} (hx : x.fit) (hy : y.fit) (h : (subD x y).e = 0) : (subD x y).d.q = x.q - y.q ∧ (subD x y).d.s = max x.s y.s := by
 obtain ⟨h1, h2⟩ := fz_e h
 refine ⟨?_, h2⟩
 have e : (subD x y).d.q = (subD x y).d.z * pw (18 - (subD x y).d.s) := rfl
 rw [e]
 unfold subD
 rw [h1, h2]
 obtain ⟨a0, a1⟩ := hx.s
 obtain ⟨b0, b1⟩ := hy.s
 unfold addV Dn.q
 rw [Int.add_mul, Int.mul_assoc, Int.mul_assoc, pw_join (by omega) (by omega), pw_join (by omega) (by omega), Int.neg_mul]
 omega
theorem sgn_mul (b c : Bool) (n m : Int) : sgn (b != c) (n * m) = sgn b n * sgn c m := by
 cases b <;> cases c <;> simp [sgn, Int.neg_mul, Int.mul_neg]
theorem sgn_nz (b : Bool) (V : Int) : sgn (b && !decide (V = 0)) V = sgn b V := by
 by_cases h : V = 0
 ·subst h; cases b <;> simp [sgn]
 ·simp [h]
theorem mul_q {x y : Dn} (hx : x.fit) (hy : y.fit) (hs : x.s + y.s ≤ 18) (h : (mulD x y).e = 0) : (mulD x y).d.q * pw y.s = x.q * y.z := by
 obtain ⟨a0, a1⟩ := hx.s
 obtain ⟨b0, b1⟩ := hy.s
 have hm : min (x.s + y.s) 18 = x.s + y.s := by omega
 have hr : rdV (x.b != y.b) (x.n * y.n) (x.s + y.s) (x.s + y.s) 2 = x.n * y.n := by
  unfold rdV; rw [if_pos (Int.le_refl _), Int.sub_self, pw_zero, Int.mul_one]
 have hd : (mulD x y).d.z = x.z * y.z ∧ (mulD x y).d.s = x.s + y.s := by
  unfold mulD at h ⊢
  rw [hm, hr] at h ⊢
  unfold fxR at h ⊢
  split
  ·refine ⟨?_, rfl⟩
   show sgn ((x.b != y.b) && !decide (x.n * y.n = 0)) (x.n * y.n) = sgn x.b x.n * sgn y.b y.n
   rw [sgn_nz, sgn_mul]
  next q => rw [if_neg q] at h; exact absurd h (by decide)
 have e : (mulD x y).d.q = (mulD x y).d.z * pw (18 - (mulD x y).d.s) := rfl
 have e2 : pw (18 - (x.s + y.s)) * pw y.s = pw (18 - x.s) := by rw [pw_add (by omega) b0]; congr 1; omega
 rw [e, hd.1, hd.2, Int.mul_assoc, e2]
 unfold Dn.q
 rw [Int.mul_assoc, Int.mul_assoc, Int.mul_comm y.z]
theorem says_q {s : Stp} {x : Dn} (hs : s.fit) (hx : x.fit) (hm : max x.s s.a.s + s.c.s ≤ 18) (h : (saysD s x).e = 0) : ((saysD s x).d.q - s.b.q) * pw s.c.s = (x.q - s.a.q) * s.c.z := by
 unfold saysD at h ⊢
 split at h
 next e1 =>
  rw [if_pos e1]
  have f1 := (good_sub hx hs.1).fit e1
  obtain ⟨q1, t1⟩ := sub_q hx hs.1 e1
  split at h
  next e2 =>
   rw [if_pos e2]
   have f2 := (good_mul f1 hs.2.2).fit e2
   rw [add_q f2 hs.2.1 h, ← q1, ← mul_q f1 hs.2.2 (by rw [t1]; omega) e2]
   congr 1
   omega
  next e2 => exact absurd h e2
 next e1 => exact absurd h e1
theorem nn_of {u p v : Int} (hp : 0 < p) (h : u * p = v) (hv : 0 ≤ v) : 0 ≤ u := by
 rcases Int.lt_or_le u 0 with q | q
 ·have := Int.mul_neg_of_neg_of_pos q hp
  omega
 ·exact q
theorem fl_z {s : Stp} (hs : s.fit) (h : fl s = false) : 0 ≤ s.c.z := by
 have h1 := of_decide_eq_false h
 have h0 := hs.2.2.1.1
 unfold Dn.z sgn
 unfold sg at h1
 by_cases hn : s.c.n = 0
 ·cases s.c.b <;> simp [hn]
 ·rw [if_neg hn] at h1
  cases hb : s.c.b with
  | true => rw [hb] at h1; simp at h1
  | false => simp; exact h0
theorem rs_0 {L : List Stp} (h : rsE L = 0) : chkT L = 0 ∧ jE L = 0 := by
 unfold rsE at h
 split at h
 next c => exact ⟨c, h⟩
 next c => exact absurd h c
theorem says_ge {s : Stp} {x : Dn} (hs : s.fit) (hx : x.fit) (hf : fl s = false) (hm : max x.s s.a.s + s.c.s ≤ 18) (h : (saysD s x).e = 0) (hq : s.a.q ≤ x.q) : s.b.q ≤ (saysD s x).d.q := by
 have := nn_of (pw_pos _) (says_q hs hx hm h) (Int.mul_nonneg (by omega) (fl_z hs hf))
 omega
theorem says_le {s : Stp} {x y : Dn} (hs : s.fit) (hx : x.fit) (hy : y.fit) (hf : fl s = false) (hm : max x.s s.a.s + s.c.s ≤ 18) (hn : max y.s s.a.s + s.c.s ≤ 18) (h : (saysD s x).e = 0) (g : (saysD s y).e = 0) (hq : x.q ≤ y.q) : (saysD s x).d.q ≤ (saysD s y).d.q := by
 have e1 := says_q hs hx hm h
 have e2 := says_q hs hy hn g
 have e3 : ((saysD s y).d.q - (saysD s x).d.q) * pw s.c.s = (y.q - x.q) * s.c.z := by
  have a1 : (saysD s y).d.q - (saysD s x).d.q = ((saysD s y).d.q - s.b.q) - ((saysD s x).d.q - s.b.q) := by omega
  have a2 : y.q - x.q = (y.q - s.a.q) - (x.q - s.a.q) := by omega
  rw [a1, Int.sub_mul, e1, e2, ← Int.sub_mul, ← a2]
 have := nn_of (pw_pos _) e3 (Int.mul_nonneg (by omega) (fl_z hs hf))
 omega
theorem at_0 {L : List Stp} {x : Dn} (h : (atD L x).e = 0) : stpE L x = 0 := by
 apply Classical.byContradiction
 intro q
 rw [at_e q] at h
 exact q h
section
variable {L : List Stp} {sx : Int}
theorem rs_all (he : rsE L = 0) (hb : rsB true L = true) : (∀ n ∈ jcL L, ¬ n < 0) ∧ (∀ s ∈ L, fl s = false) := by
 unfold rsB at hb
 rw [if_pos he] at hb
 simp only [Bool.and_eq_true, List.all_eq_true] at hb
 refine ⟨fun n hn => ?_, fun s hs => ?_⟩
 ·have := hb.1 n hn
  unfold upB at this
  simp at this
  omega
 ·have := hb.2 s hs
  simpa using this
theorem end_le (hk : ∀ y ∈ L, y.ok) (he : rsE L = 0) (hb : rsB true L = true) {i : Nat} {s u : Stp} (hs : L[i]? = some s) (hu : L[i + 1]? = some u) : (saysD s u.a).e = 0 ∧ (saysD s u.a).d.q ≤ u.b.q := by
 obtain ⟨hc, hj⟩ := rs_0 he
 obtain ⟨_, _, ha, _⟩ := chk_0 hc
 have h1 := jE_no hj hs hu
 refine ⟨h1, ?_⟩
 have h2 := (rs_all he hb).1 _ (List.mem_of_getElem? (jcL_at hs hu))
 rw [cmp_q (fit_of hk ha hu).2.1 ((good_says (fit_of hk ha hs) (fit_of hk ha hu).1).fit h1)] at h2
 unfold cm at h2
 split at h2
 ·omega
 ·omega
theorem base_le (hk : ∀ y ∈ L, y.ok) (he : rsE L = 0) (hb : rsB true L = true) (hcond : ∀ s ∈ L, s.c.s + max sx s.a.s ≤ 18 ∧ s.a.s ≤ sx) : ∀ (d i : Nat) {s u : Stp}, L[i]? = some s → L[i + d]? = some u → s.b.q ≤ u.b.q
 | 0, i, s, u, hs, hu => by rw [Nat.add_zero, hs] at hu; cases hu; exact Int.le_refl _
 | d + 1, i, s, u, hs, hu => by
  obtain ⟨v, hv⟩ := get_of_lt (k := i + d) (L := L) (by have := lt_of_get hu; omega)
  have h1 := base_le hk he hb hcond d i hs hv
  obtain ⟨hc, _⟩ := rs_0 he
  obtain ⟨_, _, ha, hasc⟩ := chk_0 hc
  obtain ⟨e0, h2⟩ := end_le hk he hb hv (by rw [Nat.add_assoc]; exact hu)
  have c1 := hcond v (List.mem_of_getElem? hv)
  have c2 := hcond u (List.mem_of_getElem? hu)
  have h3 := says_ge (fit_of hk ha hv) (fit_of hk ha hu).1 ((rs_all he hb).2 v (List.mem_of_getElem? hv)) (by omega) e0 (Int.le_of_lt (asc_lt hk ha hasc 0 (i + d) hv (by rw [Nat.add_zero, Nat.add_assoc]; exact hu)))
  omega
theorem at_mono (hk : ∀ y ∈ L, y.ok) (he : rsE L = 0) (hb : rsB true L = true) {x y : Dn} (hx : x.fit) (hy : y.fit) (hxy : x.s = y.s) (hcond : ∀ s ∈ L, s.c.s + max x.s s.a.s ≤ 18 ∧ s.a.s ≤ x.s) (hle : x.q ≤ y.q) (ex : (atD L x).e = 0) (ey : (atD L y).e = 0) : (atD L x).d.q ≤ (atD L y).d.q := by
 obtain ⟨hc, _⟩ := rs_0 he
 obtain ⟨_, _, ha, hasc⟩ := chk_0 hc
 obtain ⟨_, _, i, s, h1, h2, _, h4⟩ := stp_0 (at_0 ex)
 obtain ⟨_, _, j, u, g1, g2, _, g4⟩ := stp_0 (at_0 ey)
 rw [h4] at ex ⊢
 rw [g4] at ey ⊢
 have fs := fit_of hk ha h2
 have fu := fit_of hk ha g2
 have r1 := (lastP_inv h1).2
 rw [rchd_q hk ha hx h2] at r1
 have r1 := of_decide_eq_true r1
 have r2 := (lastP_inv g1).2
 rw [rchd_q hk ha hy g2] at r2
 have r2 := of_decide_eq_true r2
 have c1 := hcond s (List.mem_of_getElem? h2)
 have c2 := hcond u (List.mem_of_getElem? g2)
 have f1 := (rs_all he hb).2 s (List.mem_of_getElem? h2)
 have f2 := (rs_all he hb).2 u (List.mem_of_getElem? g2)
 have hij : i ≤ j := by
  rcases Nat.lt_or_ge j i with q | q
  ·have := lastP_more g1 i q (lt_of_get h2)
   rw [rchd_q hk ha hy h2] at this
   have := of_decide_eq_false this
   omega
  ·exact q
 rcases Nat.lt_or_ge i j with q | q
 ·obtain ⟨v, hv⟩ := get_of_lt (k := i + 1) (L := L) (by have := lt_of_get g2; omega)
  have r3 := lastP_more h1 (i + 1) (by omega) (lt_of_get hv)
  rw [rchd_q hk ha hx hv] at r3
  have r3 := of_decide_eq_false r3
  obtain ⟨e0, b1⟩ := end_le hk he hb h2 hv
  have c3 := hcond v (List.mem_of_getElem? hv)
  have b2 := says_le fs hx (fit_of hk ha hv).1 f1 (by omega) (by omega) ex e0 (by omega)
  have b3 := base_le hk he hb hcond (j - (i + 1)) (i + 1) hv (by rw [show i + 1 + (j - (i + 1)) = j by omega]; exact g2)
  have b4 := says_ge fu hy f2 (by omega) ey r2
  omega
 ·have : i = j := by omega
  subst this
  rw [h2] at g2
  cases g2
  exact says_le fs hx hy f1 (by omega) (by omega) ex ey hle
end
end Go.Proofs.Ythehmmhnacomkaa
namespace Go.Proofs.Ythehmmhnacomkaa
open Go.RowKit D
theorem good_at {L : List Stp} {x : Dn} (hk : ∀ y ∈ L, y.ok) (hx : x.ok) : (atD L x).good := by
 by_cases h : stpE L x = 0
 ·obtain ⟨hc, he, k, s, _, hs, _, e⟩ := stp_0 h
  rw [e]
  exact good_says (fit_of hk (chk_0 hc).2.2.1 hs) ⟨hx, he⟩
 ·rw [at_e h]; exact good_er
theorem cond_all {L : List Stp} {d : Dn} (h : ∀ j < L.length, ∀ s, L[j]? = some s → s.c.s + max d.s s.a.s ≤ 18 ∧ s.a.s ≤ d.s) : ∀ s ∈ L, s.c.s + max d.s s.a.s ≤ 18 ∧ s.a.s ≤ d.s := fun s hs => by
 obtain ⟨j, hj⟩ := List.getElem?_of_mem hs
 exact h j (lt_of_get hj) s hj
theorem mono_c {L : List Stp} (hk : ∀ y ∈ L, y.ok) (he : rsE L = 0) (hb : rsB true L = true) {x y : Dn} (hx : x.fit) (hy : y.fit) (hxy : x.s = y.s) (hcond : ∀ s ∈ L, s.c.s + max x.s s.a.s ≤ 18 ∧ s.a.s ≤ x.s) (hle : x.q ≤ y.q) (ex : (atD L x).e = 0) (ey : (atD L y).e = 0) : cmpD (atD L x).d (atD L y).d ≤ 0 := by
 rw [cmp_q ((good_at hk hx.1).fit ex) ((good_at hk hy.1).fit ey)]
 exact cm_le.2 (at_mono hk he hb hx hy hxy hcond hle ex ey)
theorem rises_n {x : Tb} {d e : Dn} (w : World) (hT : LT w x) (hdo : d.ok) (heo : e.ok) : Calls Try.prog 6 #[.agg (x.cells).toArray, d.v, e.v] w fun e9 w' => e9 = .returned (.bool true) ∧ Mo w w' := by
 refine w_enter 104 Try.func6 Try.ntmps6 rfl rfl ?_
 have M : Mo w w := Mo.refl _
 refine w_seq (w_reg ?_)
 refine wl_box 24 (.tmp 0) _ (((x.cells).toArray)) rfl rfl (fun _ => by kernel_rfl) rfl ?_
 intro k1 u1 hk hz hq Q1
 have N_k1 : w.heap.size ≤ k1 := by have := M.size; omega
 replace M := M.trans hq
 clear hk hz hq
 refine wl_box 33 (.tmp 1) _ (((d.cells).toArray)) rfl rfl (fun _ => by kernel_rfl) rfl ?_
 intro k2 u2 hk hz hq Q2
 have ne_k1_k2 : k1 ≠ k2 := by have := Q1.lt; omega
 have N_k2 : w.heap.size ≤ k2 := by have := M.size; omega
 replace Q1 := Q1.mo hq
 replace M := M.trans hq
 clear hk hz hq
 refine wl_box 33 (.tmp 2) _ (((e.cells).toArray)) rfl rfl (fun _ => by kernel_rfl) rfl ?_
 intro k3 u3 hk hz hq Q3
 have ne_k1_k3 : k1 ≠ k3 := by have := Q1.lt; omega
 have ne_k2_k3 : k2 ≠ k3 := by have := Q2.lt; omega
 have N_k3 : w.heap.size ≤ k3 := by have := M.size; omega
 replace Q1 := Q1.mo hq
 replace Q2 := Q2.mo hq
 replace M := M.trans hq
 clear hk hz hq
 refine wl_m (.const (.bool false)) (.bool false) ?_
 refine w_nil (xn_then (w_seq (w_reg ?_)))
 refine wl_l 24 (.tmp 3) (pt k1 0) (.agg (x.cells).toArray) (run_row Q1 24 0 2 (x.cells) rfl Try.underlying24 rfl szT24) ?_
 cases hf0 : rsB true x.st with
 | true =>
  refine wl_call 19 [(.tmp 15)] _ [.agg (x.cells).toArray] (.tuple #[.bool true, .int .i64 (rsE x.st)]) rfl rfl (fun _ _ => by kernel_rfl) (cR (by rw [hf0]) (pris_n _ (hT.mo M))) rfl ?_
  intro u4 hq
  replace Q1 := Q1.mo hq
  replace Q2 := Q2.mo hq
  replace Q3 := Q3.mo hq
  replace M := M.trans hq
  clear hq
  refine wl_m (.tmp 16) (.tuple #[.bool true, .int .i64 (rsE x.st)]) ?_
  refine wl_un (fun v => Instr.extract v 0) (.tmp 14) (.tuple #[.bool true, .int .i64 (rsE x.st)]) (.bool true) (fun _ => rfl) rfl (by kernel_rfl) rfl ?_
  refine wl_un (fun v => Instr.extract v 1) (.tmp 14) (.tuple #[.bool true, .int .i64 (rsE x.st)]) (.int .i64 (rsE x.st)) (fun _ => rfl) rfl (by kernel_rfl) rfl ?_
  refine wl_m (.tmp 17) (.bool true) ?_
  refine wl_m (.tmp 18) (.int .i64 (rsE x.st)) ?_
  refine w_nil (xn_then (w_seq (w_seq (w_reg ?_))))
  refine wl_call 8 [] _ [] (.bool true) rfl rfl (fun _ _ => by kernel_rfl) (begun_n _) rfl ?_
  intro u5 hq
  replace Q1 := Q1.mo hq
  replace Q2 := Q2.mo hq
  replace Q3 := Q3.mo hq
  replace M := M.trans hq
  clear hq
  refine wl_un (fun v => Op.unary .not v) (.tmp 19) (.bool true) (.bool false) (fun _ => rfl) rfl (by kernel_rfl) rfl ?_
  refine wl_m (.tmp 20) (.bool false) ?_
  refine wl_m (.tmp 7) (.bool true) ?_
  refine wl_un (fun v => Op.unary .not v) (.tmp 22) (.bool true) (.bool false) (fun _ => rfl) rfl (by kernel_rfl) rfl ?_
  refine wl_pick (.tmp 21) (.const (.bool true)) (.tmp 23) false (.bool false) (fun _ => rfl) rfl rfl rfl ?_
  refine wl_m (.tmp 24) (.bool false) ?_
  refine wl_m (.tmp 8) (.int .i64 (rsE x.st)) ?_
  cases hf1 : decide (rsE x.st = 0) with
  | true =>
   have hf1p := of_decide_eq_true hf1
   refine wl_b .neq 26 (.tmp 26) (.const (.int .i64 (0))) (.int .i64 (rsE x.st)) (.int .i64 (0)) (.bool false) (ne34 hf1 _ _ _) ?_
   refine wl_pick (.tmp 25) (.const (.bool true)) (.tmp 27) false (.bool false) (fun _ => rfl) rfl rfl rfl ?_
   refine wl_m (.tmp 28) (.bool false) ?_
   refine wl_f 33 2 (.tmp 4) (pt k2 0) (pt k2 5) ?_
   refine wl_l 3 (.tmp 30) (pt k2 5) (.int .i64 (d.s)) (run_one Q2 3 5 rfl Try.underlying3 rfl) ?_
   refine wl_f 33 2 (.tmp 5) (pt k3 0) (pt k3 5) ?_
   refine wl_l 3 (.tmp 32) (pt k3 5) (.int .i64 (e.s)) (run_one Q3 3 5 rfl Try.underlying3 rfl) ?_
   cases hf2 : decide (d.s = e.s) with
   | true =>
    have hf2p := of_decide_eq_true hf2
    refine wl_b .neq 3 (.tmp 31) (.tmp 33) (.int .i64 (d.s)) (.int .i64 (e.s)) (.bool false) (ne3 hf2 _ _ _) ?_
    refine wl_pick (.tmp 29) (.const (.bool true)) (.tmp 34) false (.bool false) (fun _ => rfl) rfl rfl rfl ?_
    refine wl_m (.tmp 35) (.bool false) ?_
    refine wl_l 33 (.tmp 4) (pt k2 0) (.agg (d.cells).toArray) (run_row Q2 33 0 6 (d.cells) rfl Try.underlying33 rfl sz33) ?_
    refine wl_call 23 [(.tmp 37)] _ [.agg (d.cells).toArray] (.int .i64 (d.er)) rfl rfl (fun _ _ => by kernel_rfl) (qchk_n hdo _) rfl ?_
    intro u6 hq
    replace Q1 := Q1.mo hq
    replace Q2 := Q2.mo hq
    replace Q3 := Q3.mo hq
    replace M := M.trans hq
    clear hq
    cases hf3 : decide (d.er = 0) with
    | true =>
     have hf3p := of_decide_eq_true hf3
     refine wl_b .neq 26 (.tmp 38) (.const (.int .i64 (0))) (.int .i64 (d.er)) (.int .i64 (0)) (.bool false) (ne34 hf3 _ _ _) ?_
     refine wl_pick (.tmp 36) (.const (.bool true)) (.tmp 39) false (.bool false) (fun _ => rfl) rfl rfl rfl ?_
     refine wl_m (.tmp 40) (.bool false) ?_
     refine wl_l 33 (.tmp 5) (pt k3 0) (.agg (e.cells).toArray) (run_row Q3 33 0 6 (e.cells) rfl Try.underlying33 rfl sz33) ?_
     refine wl_call 23 [(.tmp 42)] _ [.agg (e.cells).toArray] (.int .i64 (e.er)) rfl rfl (fun _ _ => by kernel_rfl) (qchk_n heo _) rfl ?_
     intro u7 hq
     replace Q1 := Q1.mo hq
     replace Q2 := Q2.mo hq
     replace Q3 := Q3.mo hq
     replace M := M.trans hq
     clear hq
     cases hf4 : decide (e.er = 0) with
     | true =>
      have hf4p := of_decide_eq_true hf4
      refine wl_b .neq 26 (.tmp 43) (.const (.int .i64 (0))) (.int .i64 (e.er)) (.int .i64 (0)) (.bool false) (ne34 hf4 _ _ _) ?_
      refine wl_pick (.tmp 41) (.const (.bool true)) (.tmp 44) false (.bool false) (fun _ => rfl) rfl rfl rfl ?_
      refine w_nil (xn_then (w_condF rfl (w_skip (xn_then (w_seq (w_seq (w_reg ?_)))))))
      refine wl_f 24 1 (.tmp 3) (pt k1 0) (pt k1 1) ?_
      refine wl_l 22 (.tmp 47) (pt k1 1) (.slice x.pa x.st.length x.cap) (run_one Q1 22 1 rfl Try.underlying22 rfl) ?_
      refine wl_val (.int .i64 ((x.st.length : Nat) : Int)) (len22 _ _ _ _ _ (by exact rfl) _ _ _ _ _ _) rfl ?_
      refine wl_m (.const (.int .i64 (0))) (.int .i64 (0)) ?_
      refine w_nil (xn_then (w_block ?_))
      have hz9 := hT.sl.1
      unfold maxLen at hz9
      have hall := (chk_0 (rs_0 hf1p).1).2.2.1
      refine w_loop (fun m l w1 => ∃ i : Nat, m = x.st.length - i ∧ i ≤ x.st.length ∧ look l 3 = pt k1 0 ∧ look l 4 = pt k2 0 ∧ look l 5 = pt k3 0 ∧ look l 48 = .slice x.pa x.st.length x.cap ∧ look l 49 = .int .i64 ((x.st.length : Nat) : Int) ∧ look l 50 = .int .i64 ((i : Nat) : Int) ∧ At w1 k1 (x.cells) ∧ At w1 k2 (d.cells) ∧ At w1 k3 (e.cells) ∧ (∀ j < i, ∀ s, x.st[j]? = some s → s.c.s + max d.s s.a.s ≤ 18 ∧ s.a.s ≤ d.s) ∧ Mo w w1) _ ⟨0, rfl, Nat.zero_le _, rfl, rfl, rfl, rfl, rfl, rfl, Q1, Q2, Q3, (fun j hj => absurd hj (Nat.not_lt_zero j)), M⟩ ?_
      clear Q1 Q2 Q3 M
      rintro m l40 wl40 ⟨i, rfl, hi, e40_3, e40_4, e40_5, e40_48, e40_49, e40_i, Q1, Q2, Q3, hcs, M⟩
      by_cases hil : i < x.st.length
      ·skip
       have hid : decide (i < x.st.length) = true := decide_eq_true hil
       obtain ⟨y, hy⟩ := get_of_lt hil
       have hmy := List.mem_of_getElem? hy
       obtain ⟨bp, op, hpp, hRp⟩ := D.SL.rw hT.sl hy
       have fys := fit_of hT.ok hall hy
       refine w_seq (w_reg ?_)
       refine wl_bin (fun x y => do eqGuard .lss 3 (.tmp 50) (.tmp 49) x y; binOp .lss 3 x y) (.tmp 50) (.tmp 49) (.int .i64 ((i : Nat) : Int)) (.int .i64 ((x.st.length : Nat) : Int)) (.bool true) (fun _ => rfl) e40_i e40_49 (ltN hid _ _ _) rfl ?_
       refine w_nil (xn_then (w_seq (w_condT rfl (w_skip (xn_then (w_seq (w_block (w_seq (w_reg ?_)))))))))
       refine wl_bin (fun x y => Instr.indexAt 22 x y) (.tmp 48) (.tmp 50) (.slice x.pa x.st.length x.cap) (.int .i64 ((i : Nat) : Int)) (pt bp (op + i * 18)) (fun _ => rfl) e40_48 e40_i (ix22 (i := i) hpp hil _) rfl ?_
       refine wl_l 45 (.tmp 52) (pt bp (op + i * 18)) (.agg (y.cells).toArray) (D.run_partR (hRp.mo M).at' 45 0 18 (y.cells) rfl Try.underlying45 rfl sz45) ?_
       refine wl_alloc 45 #[.bool false, .int .u64 0, .int .u64 0, .int .u64 0, .int .u64 0, .int .i64 0, .bool false, .int .u64 0, .int .u64 0, .int .u64 0, .int .u64 0, .int .i64 0, .bool false, .int .u64 0, .int .u64 0, .int .u64 0, .int .u64 0, .int .i64 0] rfl (fun _ => by kernel_rfl) rfl ?_
       intro k4 u41 hk hz hq Q4
       have ne_k1_k4 : k1 ≠ k4 := by have := Q1.lt; omega
       have ne_k2_k4 : k2 ≠ k4 := by have := Q2.lt; omega
       have ne_k3_k4 : k3 ≠ k4 := by have := Q3.lt; omega
       have N_k4 : w.heap.size ≤ k4 := by have := M.size; omega
       replace Q1 := Q1.mo hq
       replace Q2 := Q2.mo hq
       replace Q3 := Q3.mo hq
       replace M := M.trans hq
       clear hk hz hq
       refine wl_st 45 (.tmp 10) (.tmp 53) k4 0 ((y.cells).toArray) _ (y.cells) Q4 rfl rfl rfl rfl rfl sz45 rfl rfl rfl ?_
       intro u42 hS Qn
       replace Q4 := Qn
       clear Qn
       replace Q1 := hS.other _ _ ne_k1_k4 Q1
       replace Q2 := hS.other _ _ ne_k2_k4 Q2
       replace Q3 := hS.other _ _ ne_k3_k4 Q3
       replace M := hS.mo _ N_k4 M
       clear hS
       refine w_nil (xn_then (w_seq (w_reg ?_)))
       refine wl_f 45 2 (.tmp 10) (pt k4 0) (pt k4 12) ?_
       refine wl_f 33 2 (.tmp 54) (pt k4 12) (pt k4 17) ?_
       refine wl_l 3 (.tmp 55) (pt k4 17) (.int .i64 (y.c.s)) (run_one Q4 3 17 rfl Try.underlying3 rfl) ?_
       refine wl_un (fun v => Instr.fieldAt 33 v 2) (.tmp 4) (pt k2 0) (pt k2 5) (fun _ => rfl) e40_4 (by kernel_rfl) rfl ?_
       refine wl_l 3 (.tmp 57) (pt k2 5) (.int .i64 (d.s)) (run_one Q2 3 5 rfl Try.underlying3 rfl) ?_
       refine wl_f 45 0 (.tmp 10) (pt k4 0) (pt k4 0) ?_
       refine wl_f 33 2 (.tmp 59) (pt k4 0) (pt k4 5) ?_
       refine wl_l 3 (.tmp 60) (pt k4 5) (.int .i64 (y.a.s)) (run_one Q4 3 5 rfl Try.underlying3 rfl) ?_
       refine wl_val (.int .i64 (max d.s y.a.s)) (max_run _ _ _ _ _ (by exact rfl) (by exact rfl) _ _ _ _ _ _) rfl ?_
       have bs0 : d.fit := ⟨hdo, hf3p⟩
       have bs1 := Dn.fit.s bs0
       have bs2 := fys.2.2.s
       have bs3 := fys.1.s
       refine wl_b .add 3 (.tmp 56) (.tmp 62) (.int .i64 (y.c.s)) (.int .i64 (max d.s y.a.s)) (.int .i64 (y.c.s + max d.s y.a.s)) (addst rfl (by omega) (by omega) _ _ _) ?_
       cases hf30 : decide (18 < y.c.s + max d.s y.a.s) with
       | true =>
        have hf30p := of_decide_eq_true hf30
        refine wl_b .gtr 3 (.tmp 63) (.const (.int .i64 (18))) (.int .i64 (y.c.s + max d.s y.a.s)) (.int .i64 (18)) (.bool true) (gt3 hf30 _ _ _) ?_
        refine wl_m (.tmp 64) (.bool true) ?_
        refine wl_skip rfl (wl_skip rfl (wl_skip rfl (wl_skip rfl (wl_skip rfl (wl_skip rfl ?_)))))
        refine wl_pick (.tmp 65) (.const (.bool true)) (.tmp 71) true (.bool true) (fun _ => rfl) rfl rfl rfl ?_
        refine w_nil (xn_then (w_condT rfl (w_seq (w_reg ?_))))
        refine wl_m (.const (.bool true)) (.bool true) ?_
        refine w_nil (xn_then (w_ret (xr_blk (xr_then (xr_then (xr_blk (xr_then ?_)))))))
        exact w_ret1 _ _ rfl rfl ⟨rfl, M⟩
       | false =>
        have hf30p := of_decide_eq_false hf30
        refine wl_b .gtr 3 (.tmp 63) (.const (.int .i64 (18))) (.int .i64 (y.c.s + max d.s y.a.s)) (.int .i64 (18)) (.bool false) (gt3 hf30 _ _ _) ?_
        refine wl_m (.tmp 64) (.bool false) ?_
        refine wl_f 45 0 (.tmp 10) (pt k4 0) (pt k4 0) ?_
        refine wl_f 33 2 (.tmp 66) (pt k4 0) (pt k4 5) ?_
        refine wl_l 3 (.tmp 67) (pt k4 5) (.int .i64 (y.a.s)) (run_one Q4 3 5 rfl Try.underlying3 rfl) ?_
        refine wl_un (fun v => Instr.fieldAt 33 v 2) (.tmp 4) (pt k2 0) (pt k2 5) (fun _ => rfl) e40_4 (by kernel_rfl) rfl ?_
        refine wl_l 3 (.tmp 69) (pt k2 5) (.int .i64 (d.s)) (run_one Q2 3 5 rfl Try.underlying3 rfl) ?_
        cases hf31 : decide (d.s < y.a.s) with
        | true =>
         have hf31p := of_decide_eq_true hf31
         refine wl_b .gtr 3 (.tmp 68) (.tmp 70) (.int .i64 (y.a.s)) (.int .i64 (d.s)) (.bool true) (gt3 hf31 _ _ _) ?_
         refine wl_pick (.tmp 65) (.const (.bool true)) (.tmp 71) false (.bool true) (fun _ => rfl) rfl rfl rfl ?_
         refine w_nil (xn_then (w_condT rfl (w_seq (w_reg ?_))))
         refine wl_m (.const (.bool true)) (.bool true) ?_
         refine w_nil (xn_then (w_ret (xr_blk (xr_then (xr_then (xr_blk (xr_then ?_)))))))
         exact w_ret1 _ _ rfl rfl ⟨rfl, M⟩
        | false =>
         have hf31p := of_decide_eq_false hf31
         refine wl_b .gtr 3 (.tmp 68) (.tmp 70) (.int .i64 (y.a.s)) (.int .i64 (d.s)) (.bool false) (gt3 hf31 _ _ _) ?_
         refine wl_pick (.tmp 65) (.const (.bool true)) (.tmp 71) false (.bool false) (fun _ => rfl) rfl rfl rfl ?_
         refine w_nil (xn_then (w_condF rfl (w_skip (xn_blk (xn_then (w_reg ?_))))))
         refine wl_bin (fun x y => do eqGuard .add 3 (.tmp 50) (.const (.int .i64 (1))) x y; binOp .add 3 x y) (.tmp 50) (.const (.int .i64 (1))) (.int .i64 ((i : Nat) : Int)) (.int .i64 (1)) (.int .i64 ((i + 1 : Nat) : Int)) (fun _ => rfl) e40_i rfl (add1r (k := i) (by omega) _ _ _) rfl ?_
         refine wl_m (.tmp 73) (.int .i64 ((i + 1 : Nat) : Int)) ?_
         refine w_nil ?_
         exact xn_loop (x.st.length - (i + 1)) (by omega) ⟨i + 1, rfl, by omega, e40_3, e40_4, e40_5, e40_48, e40_49, rfl, Q1, Q2, Q3, (no_next hcs hy ⟨by omega, by omega⟩), M⟩
      ·skip
       have hid : decide (i < x.st.length) = false := decide_eq_false hil
       have hie : i = x.st.length := by omega
       have hcd := cond_all (by rw [← hie]; exact hcs)
       refine w_seq (w_reg ?_)
       refine wl_bin (fun x y => do eqGuard .lss 3 (.tmp 50) (.tmp 49) x y; binOp .lss 3 x y) (.tmp 50) (.tmp 49) (.int .i64 ((i : Nat) : Int)) (.int .i64 ((x.st.length : Nat) : Int)) (.bool false) (fun _ => rfl) e40_i e40_49 (ltN hid _ _ _) rfl ?_
       refine w_nil (xn_then (w_seq (w_condF rfl (w_exit (xx_then (xx_then (xx_blk (xn_then (w_seq (w_seq (w_reg ?_)))))))))))
       refine wl_load 33 (.tmp 4) (pt k2 0) (.agg (d.cells).toArray) rfl e40_4 (run_row Q2 33 0 6 (d.cells) rfl Try.underlying33 rfl sz33) rfl ?_
       refine wl_load 33 (.tmp 5) (pt k3 0) (.agg (e.cells).toArray) rfl e40_5 (run_row Q3 33 0 6 (e.cells) rfl Try.underlying33 rfl sz33) rfl ?_
       refine wl_call 24 [(.tmp 74), (.tmp 75)] _ [.agg (d.cells).toArray, .agg (e.cells).toArray] (.int .i64 (cmpD d e)) rfl rfl (fun _ _ => by kernel_rfl) (qcmp_n ⟨hdo, hf3p⟩ ⟨heo, hf4p⟩ _) rfl ?_
       intro u41 hq
       replace Q1 := Q1.mo hq
       replace Q2 := Q2.mo hq
       replace Q3 := Q3.mo hq
       replace M := M.trans hq
       clear hq
       cases hf30 : decide (0 < cmpD d e) with
       | true =>
        have hf30p := of_decide_eq_true hf30
        refine wl_b .gtr 3 (.tmp 76) (.const (.int .i64 (0))) (.int .i64 (cmpD d e)) (.int .i64 (0)) (.bool true) (gt3 hf30 _ _ _) ?_
        refine w_nil (xn_then (w_condT rfl (w_reg ?_)))
        refine wl_load 33 (.tmp 5) (pt k3 0) (.agg (e.cells).toArray) rfl e40_5 (run_row Q3 33 0 6 (e.cells) rfl Try.underlying33 rfl sz33) rfl ?_
        refine wl_load 33 (.tmp 4) (pt k2 0) (.agg (d.cells).toArray) rfl e40_4 (run_row Q2 33 0 6 (d.cells) rfl Try.underlying33 rfl sz33) rfl ?_
        refine wl_st 33 (.tmp 4) (.tmp 78) k2 0 ((e.cells).toArray) (d.cells) (e.cells) Q2 rfl rfl e40_4 rfl rfl sz33 rfl rfl rfl ?_
        intro u42 hS Qn
        replace Q2 := Qn
        clear Qn
        replace Q1 := hS.other _ _ ne_k1_k2 Q1
        replace Q3 := hS.other _ _ ne_k2_k3.symm Q3
        replace M := hS.mo _ N_k2 M
        clear hS
        refine wl_st 33 (.tmp 5) (.tmp 79) k3 0 ((d.cells).toArray) (e.cells) (d.cells) Q3 rfl rfl e40_5 rfl rfl sz33 rfl rfl rfl ?_
        intro u43 hS Qn
        replace Q3 := Qn
        clear Qn
        replace Q1 := hS.other _ _ ne_k1_k3 Q1
        replace Q2 := hS.other _ _ ne_k2_k3 Q2
        replace M := hS.mo _ N_k3 M
        clear hS
        refine w_nil (xn_then (w_seq (w_reg ?_)))
        refine wl_load 24 (.tmp 3) (pt k1 0) (.agg (x.cells).toArray) rfl e40_3 (run_row Q1 24 0 2 (x.cells) rfl Try.underlying24 rfl szT24) rfl ?_
        refine wl_load 33 (.tmp 4) (pt k2 0) (.agg (e.cells).toArray) rfl e40_4 (run_row Q2 33 0 6 (e.cells) rfl Try.underlying33 rfl sz33) rfl ?_
        refine wl_call 15 [(.tmp 81), (.tmp 82)] _ [.agg (x.cells).toArray, .agg (e.cells).toArray] (.tuple #[.agg ((atD x.st e).d.cells).toArray, .int .i64 ((atD x.st e).e)]) rfl rfl (fun _ _ => by kernel_rfl) (pat_n _ (hT.mo M) heo) rfl ?_
        intro u44 hq
        replace Q1 := Q1.mo hq
        replace Q2 := Q2.mo hq
        replace Q3 := Q3.mo hq
        replace M := M.trans hq
        clear hq
        refine wl_m (.tmp 83) (.tuple #[.agg ((atD x.st e).d.cells).toArray, .int .i64 ((atD x.st e).e)]) ?_
        refine wl_un (fun v => Instr.extract v 0) (.tmp 80) (.tuple #[.agg ((atD x.st e).d.cells).toArray, .int .i64 ((atD x.st e).e)]) (.agg ((atD x.st e).d.cells).toArray) (fun _ => rfl) rfl (by kernel_rfl) rfl ?_
        refine wl_un (fun v => Instr.extract v 1) (.tmp 80) (.tuple #[.agg ((atD x.st e).d.cells).toArray, .int .i64 ((atD x.st e).e)]) (.int .i64 ((atD x.st e).e)) (fun _ => rfl) rfl (by kernel_rfl) rfl ?_
        refine wl_alloc 33 #[.bool false, .int .u64 0, .int .u64 0, .int .u64 0, .int .u64 0, .int .i64 0] rfl (fun _ => by kernel_rfl) rfl ?_
        intro k4 u45 hk hz hq Q4
        have ne_k1_k4 : k1 ≠ k4 := by have := Q1.lt; omega
        have ne_k2_k4 : k2 ≠ k4 := by have := Q2.lt; omega
        have ne_k3_k4 : k3 ≠ k4 := by have := Q3.lt; omega
        have N_k4 : w.heap.size ≤ k4 := by have := M.size; omega
        replace Q1 := Q1.mo hq
        replace Q2 := Q2.mo hq
        replace Q3 := Q3.mo hq
        replace M := M.trans hq
        clear hk hz hq
        refine wl_st 33 (.tmp 11) (.tmp 84) k4 0 (((atD x.st e).d.cells).toArray) _ ((atD x.st e).d.cells) Q4 rfl rfl rfl rfl rfl sz33 rfl rfl rfl ?_
        intro u46 hS Qn
        replace Q4 := Qn
        clear Qn
        replace Q1 := hS.other _ _ ne_k1_k4 Q1
        replace Q2 := hS.other _ _ ne_k2_k4 Q2
        replace Q3 := hS.other _ _ ne_k3_k4 Q3
        replace M := hS.mo _ N_k4 M
        clear hS
        refine wl_m (.tmp 85) (.int .i64 ((atD x.st e).e)) ?_
        refine w_nil (xn_then (w_seq (w_reg ?_)))
        refine wl_load 24 (.tmp 3) (pt k1 0) (.agg (x.cells).toArray) rfl e40_3 (run_row Q1 24 0 2 (x.cells) rfl Try.underlying24 rfl szT24) rfl ?_
        refine wl_load 33 (.tmp 5) (pt k3 0) (.agg (d.cells).toArray) rfl e40_5 (run_row Q3 33 0 6 (d.cells) rfl Try.underlying33 rfl sz33) rfl ?_
        refine wl_call 15 [(.tmp 87), (.tmp 88)] _ [.agg (x.cells).toArray, .agg (d.cells).toArray] (.tuple #[.agg ((atD x.st d).d.cells).toArray, .int .i64 ((atD x.st d).e)]) rfl rfl (fun _ _ => by kernel_rfl) (pat_n _ (hT.mo M) hdo) rfl ?_
        intro u47 hq
        replace Q1 := Q1.mo hq
        replace Q2 := Q2.mo hq
        replace Q3 := Q3.mo hq
        replace Q4 := Q4.mo hq
        replace M := M.trans hq
        clear hq
        refine wl_m (.tmp 89) (.tuple #[.agg ((atD x.st d).d.cells).toArray, .int .i64 ((atD x.st d).e)]) ?_
        refine wl_un (fun v => Instr.extract v 0) (.tmp 86) (.tuple #[.agg ((atD x.st d).d.cells).toArray, .int .i64 ((atD x.st d).e)]) (.agg ((atD x.st d).d.cells).toArray) (fun _ => rfl) rfl (by kernel_rfl) rfl ?_
        refine wl_un (fun v => Instr.extract v 1) (.tmp 86) (.tuple #[.agg ((atD x.st d).d.cells).toArray, .int .i64 ((atD x.st d).e)]) (.int .i64 ((atD x.st d).e)) (fun _ => rfl) rfl (by kernel_rfl) rfl ?_
        refine wl_alloc 33 #[.bool false, .int .u64 0, .int .u64 0, .int .u64 0, .int .u64 0, .int .i64 0] rfl (fun _ => by kernel_rfl) rfl ?_
        intro k5 u48 hk hz hq Q5
        have ne_k1_k5 : k1 ≠ k5 := by have := Q1.lt; omega
        have ne_k2_k5 : k2 ≠ k5 := by have := Q2.lt; omega
        have ne_k3_k5 : k3 ≠ k5 := by have := Q3.lt; omega
        have ne_k4_k5 : k4 ≠ k5 := by have := Q4.lt; omega
        have N_k5 : w.heap.size ≤ k5 := by have := M.size; omega
        replace Q1 := Q1.mo hq
        replace Q2 := Q2.mo hq
        replace Q3 := Q3.mo hq
        replace Q4 := Q4.mo hq
        replace M := M.trans hq
        clear hk hz hq
        refine wl_st 33 (.tmp 12) (.tmp 90) k5 0 (((atD x.st d).d.cells).toArray) _ ((atD x.st d).d.cells) Q5 rfl rfl rfl rfl rfl sz33 rfl rfl rfl ?_
        intro u49 hS Qn
        replace Q5 := Qn
        clear Qn
        replace Q1 := hS.other _ _ ne_k1_k5 Q1
        replace Q2 := hS.other _ _ ne_k2_k5 Q2
        replace Q3 := hS.other _ _ ne_k3_k5 Q3
        replace Q4 := hS.other _ _ ne_k4_k5 Q4
        replace M := hS.mo _ N_k5 M
        clear hS
        refine wl_m (.tmp 91) (.int .i64 ((atD x.st d).e)) ?_
        refine w_nil (xn_then (w_seq (w_reg ?_)))
        refine wl_m (.tmp 8) (.int .i64 ((atD x.st e).e)) ?_
        cases hf31 : decide ((atD x.st e).e = 0) with
        | true =>
         have hf31p := of_decide_eq_true hf31
         refine wl_b .neq 26 (.tmp 92) (.const (.int .i64 (0))) (.int .i64 ((atD x.st e).e)) (.int .i64 (0)) (.bool false) (ne34 hf31 _ _ _) ?_
         refine wl_m (.tmp 93) (.bool false) ?_
         refine wl_m (.tmp 13) (.int .i64 ((atD x.st d).e)) ?_
         cases hf32 : decide ((atD x.st d).e = 0) with
         | true =>
          have hf32p := of_decide_eq_true hf32
          refine wl_b .neq 26 (.tmp 95) (.const (.int .i64 (0))) (.int .i64 ((atD x.st d).e)) (.int .i64 (0)) (.bool false) (ne34 hf32 _ _ _) ?_
          refine wl_pick (.tmp 94) (.const (.bool true)) (.tmp 96) false (.bool false) (fun _ => rfl) rfl rfl rfl ?_
          refine wl_m (.tmp 97) (.bool false) ?_
          refine wl_l 33 (.tmp 11) (pt k4 0) (.agg ((atD x.st e).d.cells).toArray) (run_row Q4 33 0 6 ((atD x.st e).d.cells) rfl Try.underlying33 rfl sz33) ?_
          refine wl_l 33 (.tmp 12) (pt k5 0) (.agg ((atD x.st d).d.cells).toArray) (run_row Q5 33 0 6 ((atD x.st d).d.cells) rfl Try.underlying33 rfl sz33) ?_
          refine wl_call 24 [(.tmp 99), (.tmp 100)] _ [.agg ((atD x.st e).d.cells).toArray, .agg ((atD x.st d).d.cells).toArray] (.int .i64 (cmpD (atD x.st e).d (atD x.st d).d)) rfl rfl (fun _ _ => by kernel_rfl) (qcmp_n ((good_at hT.ok heo).fit hf31p) ((good_at hT.ok hdo).fit hf32p) _) rfl ?_
          intro u50 hq
          replace Q1 := Q1.mo hq
          replace Q2 := Q2.mo hq
          replace Q3 := Q3.mo hq
          replace Q4 := Q4.mo hq
          replace Q5 := Q5.mo hq
          replace M := M.trans hq
          clear hq
          refine wl_b .leq 3 (.tmp 101) (.const (.int .i64 (0))) (.int .i64 (cmpD (atD x.st e).d (atD x.st d).d)) (.int .i64 (0)) (.bool true) (le3 (decide_eq_true (mono_c hT.ok hf1p hf0 ⟨heo, hf4p⟩ ⟨hdo, hf3p⟩ hf2p.symm (by rw [← hf2p]; exact hcd) (by have h8 := hf30p; rw [cmp_q ⟨hdo, hf3p⟩ ⟨heo, hf4p⟩, cm_pos] at h8; omega) hf31p hf32p)) _ _ _) ?_
          refine wl_pick (.tmp 98) (.const (.bool true)) (.tmp 102) false (.bool true) (fun _ => rfl) rfl rfl rfl ?_
          refine wl_m (.tmp 103) (.bool true) ?_
          refine w_nil (xn_then (w_ret ?_))
          exact w_ret1 _ _ rfl rfl ⟨rfl, M⟩
         | false =>
          have hf32p := of_decide_eq_false hf32
          refine wl_b .neq 26 (.tmp 95) (.const (.int .i64 (0))) (.int .i64 ((atD x.st d).e)) (.int .i64 (0)) (.bool true) (ne34 hf32 _ _ _) ?_
          refine wl_pick (.tmp 94) (.const (.bool true)) (.tmp 96) false (.bool true) (fun _ => rfl) rfl rfl rfl ?_
          refine wl_m (.tmp 97) (.bool true) ?_
          refine wl_skip rfl (wl_skip rfl (wl_skip rfl (wl_skip rfl ?_)))
          refine wl_pick (.tmp 98) (.const (.bool true)) (.tmp 102) true (.bool true) (fun _ => rfl) rfl rfl rfl ?_
          refine wl_m (.tmp 103) (.bool true) ?_
          refine w_nil (xn_then (w_ret ?_))
          exact w_ret1 _ _ rfl rfl ⟨rfl, M⟩
        | false =>
         have hf31p := of_decide_eq_false hf31
         refine wl_b .neq 26 (.tmp 92) (.const (.int .i64 (0))) (.int .i64 ((atD x.st e).e)) (.int .i64 (0)) (.bool true) (ne34 hf31 _ _ _) ?_
         refine wl_m (.tmp 93) (.bool true) ?_
         refine wl_skip rfl (wl_skip rfl ?_)
         refine wl_pick (.tmp 94) (.const (.bool true)) (.tmp 96) true (.bool true) (fun _ => rfl) rfl rfl rfl ?_
         refine wl_m (.tmp 97) (.bool true) ?_
         refine wl_skip rfl (wl_skip rfl (wl_skip rfl (wl_skip rfl ?_)))
         refine wl_pick (.tmp 98) (.const (.bool true)) (.tmp 102) true (.bool true) (fun _ => rfl) rfl rfl rfl ?_
         refine wl_m (.tmp 103) (.bool true) ?_
         refine w_nil (xn_then (w_ret ?_))
         exact w_ret1 _ _ rfl rfl ⟨rfl, M⟩
       | false =>
        have hf30p := of_decide_eq_false hf30
        refine wl_b .gtr 3 (.tmp 76) (.const (.int .i64 (0))) (.int .i64 (cmpD d e)) (.int .i64 (0)) (.bool false) (gt3 hf30 _ _ _) ?_
        refine w_nil (xn_then (w_condF rfl (w_skip (xn_then (w_seq (w_reg ?_))))))
        refine wl_load 24 (.tmp 3) (pt k1 0) (.agg (x.cells).toArray) rfl e40_3 (run_row Q1 24 0 2 (x.cells) rfl Try.underlying24 rfl szT24) rfl ?_
        refine wl_load 33 (.tmp 4) (pt k2 0) (.agg (d.cells).toArray) rfl e40_4 (run_row Q2 33 0 6 (d.cells) rfl Try.underlying33 rfl sz33) rfl ?_
        refine wl_call 15 [(.tmp 81), (.tmp 82)] _ [.agg (x.cells).toArray, .agg (d.cells).toArray] (.tuple #[.agg ((atD x.st d).d.cells).toArray, .int .i64 ((atD x.st d).e)]) rfl rfl (fun _ _ => by kernel_rfl) (pat_n _ (hT.mo M) hdo) rfl ?_
        intro u42 hq
        replace Q1 := Q1.mo hq
        replace Q2 := Q2.mo hq
        replace Q3 := Q3.mo hq
        replace M := M.trans hq
        clear hq
        refine wl_m (.tmp 83) (.tuple #[.agg ((atD x.st d).d.cells).toArray, .int .i64 ((atD x.st d).e)]) ?_
        refine wl_un (fun v => Instr.extract v 0) (.tmp 80) (.tuple #[.agg ((atD x.st d).d.cells).toArray, .int .i64 ((atD x.st d).e)]) (.agg ((atD x.st d).d.cells).toArray) (fun _ => rfl) rfl (by kernel_rfl) rfl ?_
        refine wl_un (fun v => Instr.extract v 1) (.tmp 80) (.tuple #[.agg ((atD x.st d).d.cells).toArray, .int .i64 ((atD x.st d).e)]) (.int .i64 ((atD x.st d).e)) (fun _ => rfl) rfl (by kernel_rfl) rfl ?_
        refine wl_alloc 33 #[.bool false, .int .u64 0, .int .u64 0, .int .u64 0, .int .u64 0, .int .i64 0] rfl (fun _ => by kernel_rfl) rfl ?_
        intro k4 u43 hk hz hq Q4
        have ne_k1_k4 : k1 ≠ k4 := by have := Q1.lt; omega
        have ne_k2_k4 : k2 ≠ k4 := by have := Q2.lt; omega
        have ne_k3_k4 : k3 ≠ k4 := by have := Q3.lt; omega
        have N_k4 : w.heap.size ≤ k4 := by have := M.size; omega
        replace Q1 := Q1.mo hq
        replace Q2 := Q2.mo hq
        replace Q3 := Q3.mo hq
        replace M := M.trans hq
        clear hk hz hq
        refine wl_st 33 (.tmp 11) (.tmp 84) k4 0 (((atD x.st d).d.cells).toArray) _ ((atD x.st d).d.cells) Q4 rfl rfl rfl rfl rfl sz33 rfl rfl rfl ?_
        intro u44 hS Qn
        replace Q4 := Qn
        clear Qn
        replace Q1 := hS.other _ _ ne_k1_k4 Q1
        replace Q2 := hS.other _ _ ne_k2_k4 Q2
        replace Q3 := hS.other _ _ ne_k3_k4 Q3
        replace M := hS.mo _ N_k4 M
        clear hS
        refine wl_m (.tmp 85) (.int .i64 ((atD x.st d).e)) ?_
        refine w_nil (xn_then (w_seq (w_reg ?_)))
        refine wl_load 24 (.tmp 3) (pt k1 0) (.agg (x.cells).toArray) rfl e40_3 (run_row Q1 24 0 2 (x.cells) rfl Try.underlying24 rfl szT24) rfl ?_
        refine wl_load 33 (.tmp 5) (pt k3 0) (.agg (e.cells).toArray) rfl e40_5 (run_row Q3 33 0 6 (e.cells) rfl Try.underlying33 rfl sz33) rfl ?_
        refine wl_call 15 [(.tmp 87), (.tmp 88)] _ [.agg (x.cells).toArray, .agg (e.cells).toArray] (.tuple #[.agg ((atD x.st e).d.cells).toArray, .int .i64 ((atD x.st e).e)]) rfl rfl (fun _ _ => by kernel_rfl) (pat_n _ (hT.mo M) heo) rfl ?_
        intro u45 hq
        replace Q1 := Q1.mo hq
        replace Q2 := Q2.mo hq
        replace Q3 := Q3.mo hq
        replace Q4 := Q4.mo hq
        replace M := M.trans hq
        clear hq
        refine wl_m (.tmp 89) (.tuple #[.agg ((atD x.st e).d.cells).toArray, .int .i64 ((atD x.st e).e)]) ?_
        refine wl_un (fun v => Instr.extract v 0) (.tmp 86) (.tuple #[.agg ((atD x.st e).d.cells).toArray, .int .i64 ((atD x.st e).e)]) (.agg ((atD x.st e).d.cells).toArray) (fun _ => rfl) rfl (by kernel_rfl) rfl ?_
        refine wl_un (fun v => Instr.extract v 1) (.tmp 86) (.tuple #[.agg ((atD x.st e).d.cells).toArray, .int .i64 ((atD x.st e).e)]) (.int .i64 ((atD x.st e).e)) (fun _ => rfl) rfl (by kernel_rfl) rfl ?_
        refine wl_alloc 33 #[.bool false, .int .u64 0, .int .u64 0, .int .u64 0, .int .u64 0, .int .i64 0] rfl (fun _ => by kernel_rfl) rfl ?_
        intro k5 u46 hk hz hq Q5
        have ne_k1_k5 : k1 ≠ k5 := by have := Q1.lt; omega
        have ne_k2_k5 : k2 ≠ k5 := by have := Q2.lt; omega
        have ne_k3_k5 : k3 ≠ k5 := by have := Q3.lt; omega
        have ne_k4_k5 : k4 ≠ k5 := by have := Q4.lt; omega
        have N_k5 : w.heap.size ≤ k5 := by have := M.size; omega
        replace Q1 := Q1.mo hq
        replace Q2 := Q2.mo hq
        replace Q3 := Q3.mo hq
        replace Q4 := Q4.mo hq
        replace M := M.trans hq
        clear hk hz hq
        refine wl_st 33 (.tmp 12) (.tmp 90) k5 0 (((atD x.st e).d.cells).toArray) _ ((atD x.st e).d.cells) Q5 rfl rfl rfl rfl rfl sz33 rfl rfl rfl ?_
        intro u47 hS Qn
        replace Q5 := Qn
        clear Qn
        replace Q1 := hS.other _ _ ne_k1_k5 Q1
        replace Q2 := hS.other _ _ ne_k2_k5 Q2
        replace Q3 := hS.other _ _ ne_k3_k5 Q3
        replace Q4 := hS.other _ _ ne_k4_k5 Q4
        replace M := hS.mo _ N_k5 M
        clear hS
        refine wl_m (.tmp 91) (.int .i64 ((atD x.st e).e)) ?_
        refine w_nil (xn_then (w_seq (w_reg ?_)))
        refine wl_m (.tmp 8) (.int .i64 ((atD x.st d).e)) ?_
        cases hf31 : decide ((atD x.st d).e = 0) with
        | true =>
         have hf31p := of_decide_eq_true hf31
         refine wl_b .neq 26 (.tmp 92) (.const (.int .i64 (0))) (.int .i64 ((atD x.st d).e)) (.int .i64 (0)) (.bool false) (ne34 hf31 _ _ _) ?_
         refine wl_m (.tmp 93) (.bool false) ?_
         refine wl_m (.tmp 13) (.int .i64 ((atD x.st e).e)) ?_
         cases hf32 : decide ((atD x.st e).e = 0) with
         | true =>
          have hf32p := of_decide_eq_true hf32
          refine wl_b .neq 26 (.tmp 95) (.const (.int .i64 (0))) (.int .i64 ((atD x.st e).e)) (.int .i64 (0)) (.bool false) (ne34 hf32 _ _ _) ?_
          refine wl_pick (.tmp 94) (.const (.bool true)) (.tmp 96) false (.bool false) (fun _ => rfl) rfl rfl rfl ?_
          refine wl_m (.tmp 97) (.bool false) ?_
          refine wl_l 33 (.tmp 11) (pt k4 0) (.agg ((atD x.st d).d.cells).toArray) (run_row Q4 33 0 6 ((atD x.st d).d.cells) rfl Try.underlying33 rfl sz33) ?_
          refine wl_l 33 (.tmp 12) (pt k5 0) (.agg ((atD x.st e).d.cells).toArray) (run_row Q5 33 0 6 ((atD x.st e).d.cells) rfl Try.underlying33 rfl sz33) ?_
          refine wl_call 24 [(.tmp 99), (.tmp 100)] _ [.agg ((atD x.st d).d.cells).toArray, .agg ((atD x.st e).d.cells).toArray] (.int .i64 (cmpD (atD x.st d).d (atD x.st e).d)) rfl rfl (fun _ _ => by kernel_rfl) (qcmp_n ((good_at hT.ok hdo).fit hf31p) ((good_at hT.ok heo).fit hf32p) _) rfl ?_
          intro u48 hq
          replace Q1 := Q1.mo hq
          replace Q2 := Q2.mo hq
          replace Q3 := Q3.mo hq
          replace Q4 := Q4.mo hq
          replace Q5 := Q5.mo hq
          replace M := M.trans hq
          clear hq
          refine wl_b .leq 3 (.tmp 101) (.const (.int .i64 (0))) (.int .i64 (cmpD (atD x.st d).d (atD x.st e).d)) (.int .i64 (0)) (.bool true) (le3 (decide_eq_true (mono_c hT.ok hf1p hf0 ⟨hdo, hf3p⟩ ⟨heo, hf4p⟩ hf2p hcd (by have h8 := hf30p; rw [cmp_q ⟨hdo, hf3p⟩ ⟨heo, hf4p⟩, cm_pos] at h8; omega) hf31p hf32p)) _ _ _) ?_
          refine wl_pick (.tmp 98) (.const (.bool true)) (.tmp 102) false (.bool true) (fun _ => rfl) rfl rfl rfl ?_
          refine wl_m (.tmp 103) (.bool true) ?_
          refine w_nil (xn_then (w_ret ?_))
          exact w_ret1 _ _ rfl rfl ⟨rfl, M⟩
         | false =>
          have hf32p := of_decide_eq_false hf32
          refine wl_b .neq 26 (.tmp 95) (.const (.int .i64 (0))) (.int .i64 ((atD x.st e).e)) (.int .i64 (0)) (.bool true) (ne34 hf32 _ _ _) ?_
          refine wl_pick (.tmp 94) (.const (.bool true)) (.tmp 96) false (.bool true) (fun _ => rfl) rfl rfl rfl ?_
          refine wl_m (.tmp 97) (.bool true) ?_
          refine wl_skip rfl (wl_skip rfl (wl_skip rfl (wl_skip rfl ?_)))
          refine wl_pick (.tmp 98) (.const (.bool true)) (.tmp 102) true (.bool true) (fun _ => rfl) rfl rfl rfl ?_
          refine wl_m (.tmp 103) (.bool true) ?_
          refine w_nil (xn_then (w_ret ?_))
          exact w_ret1 _ _ rfl rfl ⟨rfl, M⟩
        | false =>
         have hf31p := of_decide_eq_false hf31
         refine wl_b .neq 26 (.tmp 92) (.const (.int .i64 (0))) (.int .i64 ((atD x.st d).e)) (.int .i64 (0)) (.bool true) (ne34 hf31 _ _ _) ?_
         refine wl_m (.tmp 93) (.bool true) ?_
         refine wl_skip rfl (wl_skip rfl ?_)
         refine wl_pick (.tmp 94) (.const (.bool true)) (.tmp 96) true (.bool true) (fun _ => rfl) rfl rfl rfl ?_
         refine wl_m (.tmp 97) (.bool true) ?_
         refine wl_skip rfl (wl_skip rfl (wl_skip rfl (wl_skip rfl ?_)))
         refine wl_pick (.tmp 98) (.const (.bool true)) (.tmp 102) true (.bool true) (fun _ => rfl) rfl rfl rfl ?_
         refine wl_m (.tmp 103) (.bool true) ?_
         refine w_nil (xn_then (w_ret ?_))
         exact w_ret1 _ _ rfl rfl ⟨rfl, M⟩
     | false =>
      have hf4p := of_decide_eq_false hf4
      refine wl_b .neq 26 (.tmp 43) (.const (.int .i64 (0))) (.int .i64 (e.er)) (.int .i64 (0)) (.bool true) (ne34 hf4 _ _ _) ?_
      refine wl_pick (.tmp 41) (.const (.bool true)) (.tmp 44) false (.bool true) (fun _ => rfl) rfl rfl rfl ?_
      refine w_nil (xn_then (w_condT rfl (w_seq (w_reg ?_))))
      refine wl_call 8 [] _ [] (.bool true) rfl rfl (fun _ _ => by kernel_rfl) (begun_n _) rfl ?_
      intro u8 hq
      replace Q1 := Q1.mo hq
      replace Q2 := Q2.mo hq
      replace Q3 := Q3.mo hq
      replace M := M.trans hq
      clear hq
      refine wl_m (.tmp 46) (.bool true) ?_
      refine w_nil (xn_then (w_ret (xr_then ?_)))
      exact w_ret1 _ _ rfl rfl ⟨rfl, M⟩
    | false =>
     have hf3p := of_decide_eq_false hf3
     refine wl_b .neq 26 (.tmp 38) (.const (.int .i64 (0))) (.int .i64 (d.er)) (.int .i64 (0)) (.bool true) (ne34 hf3 _ _ _) ?_
     refine wl_pick (.tmp 36) (.const (.bool true)) (.tmp 39) false (.bool true) (fun _ => rfl) rfl rfl rfl ?_
     refine wl_m (.tmp 40) (.bool true) ?_
     refine wl_skip rfl (wl_skip rfl (wl_skip rfl ?_))
     refine wl_pick (.tmp 41) (.const (.bool true)) (.tmp 44) true (.bool true) (fun _ => rfl) rfl rfl rfl ?_
     refine w_nil (xn_then (w_condT rfl (w_seq (w_reg ?_))))
     refine wl_call 8 [] _ [] (.bool true) rfl rfl (fun _ _ => by kernel_rfl) (begun_n _) rfl ?_
     intro u7 hq
     replace Q1 := Q1.mo hq
     replace Q2 := Q2.mo hq
     replace Q3 := Q3.mo hq
     replace M := M.trans hq
     clear hq
     refine wl_m (.tmp 46) (.bool true) ?_
     refine w_nil (xn_then (w_ret (xr_then ?_)))
     exact w_ret1 _ _ rfl rfl ⟨rfl, M⟩
   | false =>
    have hf2p := of_decide_eq_false hf2
    refine wl_b .neq 3 (.tmp 31) (.tmp 33) (.int .i64 (d.s)) (.int .i64 (e.s)) (.bool true) (ne3 hf2 _ _ _) ?_
    refine wl_pick (.tmp 29) (.const (.bool true)) (.tmp 34) false (.bool true) (fun _ => rfl) rfl rfl rfl ?_
    refine wl_m (.tmp 35) (.bool true) ?_
    refine wl_skip rfl (wl_skip rfl (wl_skip rfl ?_))
    refine wl_pick (.tmp 36) (.const (.bool true)) (.tmp 39) true (.bool true) (fun _ => rfl) rfl rfl rfl ?_
    refine wl_m (.tmp 40) (.bool true) ?_
    refine wl_skip rfl (wl_skip rfl (wl_skip rfl ?_))
    refine wl_pick (.tmp 41) (.const (.bool true)) (.tmp 44) true (.bool true) (fun _ => rfl) rfl rfl rfl ?_
    refine w_nil (xn_then (w_condT rfl (w_seq (w_reg ?_))))
    refine wl_call 8 [] _ [] (.bool true) rfl rfl (fun _ _ => by kernel_rfl) (begun_n _) rfl ?_
    intro u6 hq
    replace Q1 := Q1.mo hq
    replace Q2 := Q2.mo hq
    replace Q3 := Q3.mo hq
    replace M := M.trans hq
    clear hq
    refine wl_m (.tmp 46) (.bool true) ?_
    refine w_nil (xn_then (w_ret (xr_then ?_)))
    exact w_ret1 _ _ rfl rfl ⟨rfl, M⟩
  | false =>
   have hf1p := of_decide_eq_false hf1
   refine wl_b .neq 26 (.tmp 26) (.const (.int .i64 (0))) (.int .i64 (rsE x.st)) (.int .i64 (0)) (.bool true) (ne34 hf1 _ _ _) ?_
   refine wl_pick (.tmp 25) (.const (.bool true)) (.tmp 27) false (.bool true) (fun _ => rfl) rfl rfl rfl ?_
   refine wl_m (.tmp 28) (.bool true) ?_
   refine wl_skip rfl (wl_skip rfl (wl_skip rfl (wl_skip rfl (wl_skip rfl ?_))))
   refine wl_pick (.tmp 29) (.const (.bool true)) (.tmp 34) true (.bool true) (fun _ => rfl) rfl rfl rfl ?_
   refine wl_m (.tmp 35) (.bool true) ?_
   refine wl_skip rfl (wl_skip rfl (wl_skip rfl ?_))
   refine wl_pick (.tmp 36) (.const (.bool true)) (.tmp 39) true (.bool true) (fun _ => rfl) rfl rfl rfl ?_
   refine wl_m (.tmp 40) (.bool true) ?_
   refine wl_skip rfl (wl_skip rfl (wl_skip rfl ?_))
   refine wl_pick (.tmp 41) (.const (.bool true)) (.tmp 44) true (.bool true) (fun _ => rfl) rfl rfl rfl ?_
   refine w_nil (xn_then (w_condT rfl (w_seq (w_reg ?_))))
   refine wl_call 8 [] _ [] (.bool true) rfl rfl (fun _ _ => by kernel_rfl) (begun_n _) rfl ?_
   intro u6 hq
   replace Q1 := Q1.mo hq
   replace Q2 := Q2.mo hq
   replace Q3 := Q3.mo hq
   replace M := M.trans hq
   clear hq
   refine wl_m (.tmp 46) (.bool true) ?_
   refine w_nil (xn_then (w_ret (xr_then ?_)))
   exact w_ret1 _ _ rfl rfl ⟨rfl, M⟩
 | false =>
  refine wl_call 19 [(.tmp 15)] _ [.agg (x.cells).toArray] (.tuple #[.bool false, .int .i64 (rsE x.st)]) rfl rfl (fun _ _ => by kernel_rfl) (cR (by rw [hf0]) (pris_n _ (hT.mo M))) rfl ?_
  intro u4 hq
  replace Q1 := Q1.mo hq
  replace Q2 := Q2.mo hq
  replace Q3 := Q3.mo hq
  replace M := M.trans hq
  clear hq
  refine wl_m (.tmp 16) (.tuple #[.bool false, .int .i64 (rsE x.st)]) ?_
  refine wl_un (fun v => Instr.extract v 0) (.tmp 14) (.tuple #[.bool false, .int .i64 (rsE x.st)]) (.bool false) (fun _ => rfl) rfl (by kernel_rfl) rfl ?_
  refine wl_un (fun v => Instr.extract v 1) (.tmp 14) (.tuple #[.bool false, .int .i64 (rsE x.st)]) (.int .i64 (rsE x.st)) (fun _ => rfl) rfl (by kernel_rfl) rfl ?_
  refine wl_m (.tmp 17) (.bool false) ?_
  refine wl_m (.tmp 18) (.int .i64 (rsE x.st)) ?_
  refine w_nil (xn_then (w_seq (w_seq (w_reg ?_))))
  refine wl_call 8 [] _ [] (.bool true) rfl rfl (fun _ _ => by kernel_rfl) (begun_n _) rfl ?_
  intro u5 hq
  replace Q1 := Q1.mo hq
  replace Q2 := Q2.mo hq
  replace Q3 := Q3.mo hq
  replace M := M.trans hq
  clear hq
  refine wl_un (fun v => Op.unary .not v) (.tmp 19) (.bool true) (.bool false) (fun _ => rfl) rfl (by kernel_rfl) rfl ?_
  refine wl_m (.tmp 20) (.bool false) ?_
  refine wl_m (.tmp 7) (.bool false) ?_
  refine wl_un (fun v => Op.unary .not v) (.tmp 22) (.bool false) (.bool true) (fun _ => rfl) rfl (by kernel_rfl) rfl ?_
  refine wl_pick (.tmp 21) (.const (.bool true)) (.tmp 23) false (.bool true) (fun _ => rfl) rfl rfl rfl ?_
  refine wl_m (.tmp 24) (.bool true) ?_
  refine wl_skip rfl (wl_skip rfl ?_)
  refine wl_pick (.tmp 25) (.const (.bool true)) (.tmp 27) true (.bool true) (fun _ => rfl) rfl rfl rfl ?_
  refine wl_m (.tmp 28) (.bool true) ?_
  refine wl_skip rfl (wl_skip rfl (wl_skip rfl (wl_skip rfl (wl_skip rfl ?_))))
  refine wl_pick (.tmp 29) (.const (.bool true)) (.tmp 34) true (.bool true) (fun _ => rfl) rfl rfl rfl ?_
  refine wl_m (.tmp 35) (.bool true) ?_
  refine wl_skip rfl (wl_skip rfl (wl_skip rfl ?_))
  refine wl_pick (.tmp 36) (.const (.bool true)) (.tmp 39) true (.bool true) (fun _ => rfl) rfl rfl rfl ?_
  refine wl_m (.tmp 40) (.bool true) ?_
  refine wl_skip rfl (wl_skip rfl (wl_skip rfl ?_))
  refine wl_pick (.tmp 41) (.const (.bool true)) (.tmp 44) true (.bool true) (fun _ => rfl) rfl rfl rfl ?_
  refine w_nil (xn_then (w_condT rfl (w_seq (w_reg ?_))))
  refine wl_call 8 [] _ [] (.bool true) rfl rfl (fun _ _ => by kernel_rfl) (begun_n _) rfl ?_
  intro u6 hq
  replace Q1 := Q1.mo hq
  replace Q2 := Q2.mo hq
  replace Q3 := Q3.mo hq
  replace M := M.trans hq
  clear hq
  refine wl_m (.tmp 46) (.bool true) ?_
  refine w_nil (xn_then (w_ret (xr_then ?_)))
  exact w_ret1 _ _ rfl rfl ⟨rfl, M⟩
end Go.Proofs.Ythehmmhnacomkaa

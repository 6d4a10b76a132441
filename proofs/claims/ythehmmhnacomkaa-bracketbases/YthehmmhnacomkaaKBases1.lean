/-
  A part of the proof.
-/
import Derived.Test.YthehmmhnacomkaaKa3
import Derived.Test.YthehmmhnacomkaaKa2
import Derived.Test.YthehmmhnacomkaaKa1
import Derived.RegionTactic
import Derived.Test.YthehmmhnacomkaaProg
import Derived.WalkKit
import Derived.WalkSpells
import Derived.Handy
import Derived.BigQuiet
import Derived.Deep.RegionHeld3
import Derived.Deep.MidRow
import Derived.BigCall
import Derived.Test.YthehmmhnacomkaaKa16
import Derived.Test.YthehmmhnacomkaaKa15
import Derived.Test.YthehmmhnacomkaaKa14
import Derived.Test.YthehmmhnacomkaaKa11
import Derived.Test.YthehmmhnacomkaaKa10
import Derived.Test.YthehmmhnacomkaaKa9
import Derived.Test.YthehmmhnacomkaaKa8
import Derived.Test.YthehmmhnacomkaaKa5
import Derived.Test.YthehmmhnacomkaaKa4
import Derived.Shelf.Small.Bits
import Derived.Shelf.Strconv.Itoa0
import Derived.Shelf.Bits.Mul64
import Derived.Deep.CutBlock
import Derived.Deep.CutRange
import Derived.Test.YthehmmhnacomkaaKa7
import Derived.Test.YthehmmhnacomkaaKa6
import Derived.ChangeKeysEq
import Derived.ScopeJumps
import Derived.WalkMore
import Derived.Laws.StructEq
import Derived.Test.YthehmmhnacomkaaKa13
import Derived.Test.YthehmmhnacomkaaKa12
import Derived.Test.YthehmmhnacomkaaKa17
import Derived.Lib.CutLaws
import Derived.Maps.OwnSet
import Derived.WalkArith
import Derived.StringKeys
import Derived.ProofKit
import Derived.OpenShut
import Derived.ChangeArms
import Derived.Deep.Slices
import Derived.ReadAgain
import Derived.WideKeyArgs
import Derived.Maps.AppendAt
import Derived.Test.YthehmmhnacomkaaKa18
import Derived.Test.YthehmmhnacomkaaKa20
import Derived.Test.YthehmmhnacomkaaKa19
namespace Go.Proofs.Ythehmmhnacomkaa
open Go.RowKit
section
variable {P : Program} {o : Oper} {n : Nat} {l : List (Nat × Value)} {w : World} {ops : Array Oper} {rest : List Oper} {Q : Exit → Act → World → Prop} {K : Act → World → Prop}
theorem la_mv (x : Operand) (p : Value) (ho : ∀ ρ, execOp ρ o = pure (.value (ρ x))) (hx : evl n l x = p) : ∀ w, (execOp (evl n l) o).run P w = .ok (.value p) w := fun w => by rw [ho, hx]; rfl
end
end Go.Proofs.Ythehmmhnacomkaa

namespace Go.Proofs.Ythehmmhnacomkaa
open Go.RowKit
theorem hi0 {X : Int} (h0 : 0 ≤ X) (h : X < MM) : (l0 (X / MM) == 0 && (l1 (X / MM) == 0 && (l2 (X / MM) == 0 && l3 (X / MM) == 0))) = true := by
 rw [Int.ediv_eq_zero_of_lt h0 h]; rfl
end Go.Proofs.Ythehmmhnacomkaa

namespace Go.Proofs.Ythehmmhnacomkaa
open Go.RowKit Go.ChangeMaps
structure Mk (D : Nat → Prop) (w w' : World) : Prop where
 os : w'.os = w.os
 tape : w'.tape = w.tape
 output : w'.output = w.output
 size : w.heap.size ≤ w'.heap.size
 block : ∀ k, k < w.heap.size → ¬ D k → w'.heap[k]? = w.heap[k]?
 fz : ∀ a, w'.frozen? a = w.frozen? a
theorem Mk.refl (D : Nat → Prop) (w : World) : Mk D w w := ⟨rfl, rfl, rfl, Nat.le_refl _, fun _ _ _ => rfl, fun _ => rfl⟩
theorem Mk.of (D : Nat → Prop) {w w' : World} (h : Mo w w') : Mk D w w' := ⟨h.1.os, h.1.tape, h.1.output, h.1.size, fun k hk _ => h.1.block k hk, h.2⟩
theorem Mk.tr {D E : Nat → Prop} {a b c : World} (h : Mk D a b) (k : Mk E b c) (hE : ∀ j, j < a.heap.size → E j → D j) : Mk D a c :=
 ⟨k.os.trans h.os, k.tape.trans h.tape, k.output.trans h.output, Nat.le_trans h.size k.size, fun j hj hd => (k.block j (Nat.lt_of_lt_of_le hj h.size) (fun e => hd (hE j hj e))).trans (h.block j hj hd), fun x => (k.fz x).trans (h.fz x)⟩
theorem Mk.trans {D : Nat → Prop} {a b c : World} (h : Mk D a b) (k : Mo b c) : Mk D a c := h.tr (Mk.of D k) (fun _ _ e => e)
theorem Mk.same {D : Nat → Prop} {a b c : World} (h : Mk D a b) (k : Mk D b c) : Mk D a c := h.tr k (fun _ _ e => e)
theorem Mk.mono {D E : Nat → Prop} {a b : World} (h : Mk D a b) (hE : ∀ j, D j → E j) : Mk E a b := ⟨h.os, h.tape, h.output, h.size, fun k hk hd => h.block k hk (fun e => hd (hE k e)), h.fz⟩
theorem Mk.at {D : Nat → Prop} {w w' : World} (h : Mk D w w') {k : Nat} {vs : List Value} (hA : At w k vs) (hk : ¬ D k) : At w' k vs :=
 ⟨fun j v hv => (World.cell?_of_block (a := ⟨k, 0 + j, none⟩) (h.block k hA.2.2 hk)).trans (hA.1 j v hv), fun o => (h.fz _).trans (hA.2.1 o), Nat.lt_of_lt_of_le hA.2.2 h.size⟩
theorem Mk.mo {D : Nat → Prop} {a b c : World} (h : Mk D b c) (m : Mo a b) (hD : ∀ k, D k → a.heap.size ≤ k) : Mo a c :=
 ⟨⟨h.os.trans m.1.os, h.tape.trans m.1.tape, h.output.trans m.1.output, Nat.le_trans m.1.size h.size, fun k hk => (h.block k (Nat.lt_of_lt_of_le hk m.1.size) (fun e => by have := hD k e; omega)).trans (m.1.block k hk)⟩, fun x => (h.fz x).trans (m.2 x)⟩
theorem ne3 {a b : Int} {r : Bool} (h : decide (a = b) = r) (x y : Operand) (w : World) : (do eqGuard .neq 3 x y (.int .i64 a) (.int .i64 b); binOp .neq 3 (.int .i64 a) (.int .i64 b)).run Try.prog w = .ok (.bool (!r)) w := by
 subst h
 have e : (do eqGuard .neq 3 x y (.int .i64 a) (.int .i64 b); binOp .neq 3 (.int .i64 a) (.int .i64 b)).run Try.prog w = .ok (.bool (!(a == b))) w := by kernel_rfl
 rw [e]; congr 2
theorem ge3 {a b : Int} {r : Bool} (h : decide (b ≤ a) = r) (x y : Operand) (w : World) : (do eqGuard .geq 3 x y (.int .i64 a) (.int .i64 b); binOp .geq 3 (.int .i64 a) (.int .i64 b)).run Try.prog w = .ok (.bool r) w := by
 subst h; kernel_rfl
theorem notb (r : Bool) (w : World) : (Op.unary .not (.bool r)).run Try.prog w = .ok (.bool (!r)) w := by kernel_rfl
theorem cR {P : Program} {g : FuncId} {args : Array Value} {w : World} {v v' : Value} (h : v = v') (c : Calls P g args w fun e w' => e = .returned v ∧ Mo w w') : Calls P g args w fun e w' => e = .returned v' ∧ Mo w w' := h ▸ c
section
variable {P : Program} {o : Oper} {n : Nat} {l : List (Nat × Value)} {w : World} {ops : Array Oper} {rest : List Oper} {Q : Exit → Act → World → Prop} {K : Act → World → Prop} {c : Code}
theorem wl_callx (g : FuncId) (xs : List Operand) (ats : Array TypeId) (args : List Value) {F : Ending → World → Prop} (ho : o.op = .call { callee := .value (.func g), args := xs.toArray, argTypes := ats }) (hx : xs.map (evl n l) = args)
  (h : ∀ args w, (callFunc g args).run P w = .ok (.enter g args) w)
  (hc : Calls P g args.toArray w F) (hg : wnt n l ops o = true) (hk : ∀ v w', F v w' → ∃ u, v = .returned u ∧ WL P ops Q rest n (ext l o.dst u) w') : WL P ops Q (o :: rest) n l w := by
 have e : (execOp (evl n l) o).run P w = .ok (.enter g args.toArray) w := by
  obtain ⟨dst, op, ty, pos, after, guard⟩ := o
  simp only at ho
  subst ho hx
  have e2 := execOp_call_go (fr n l) dst g xs.toArray ats ty pos after guard
  rw [fr_eval] at e2
  rw [e2, h]
  simp
 refine ⟨l_step hg ?_⟩
 unfold Oper.wp; rw [fr_eval, e, Oper.upon_enter]
 refine hc.mono ?_
 intro e w' hF
 obtain ⟨u, rfl, hW⟩ := hk e w' hF
 show wpList _ _ _ _ _ _
 rw [fr_put]
 exact hW.out
end
/-! Maps from names to whole numbers, and from names to flags. -/
variable {w w' : World} {b : Nat} {al : List (ByteArray × Int)}
end Go.Proofs.Ythehmmhnacomkaa

namespace Go.Proofs.Ythehmmhnacomkaa
open Go.ChangeShapes Go.WideShapes Go.ChangeAt Go.RowKit
theorem Mk.kp {D : Nat → Prop} {w w' : World} (m : Mk D w w') (hD : ∀ k, D k → ∀ o, w.cell? ⟨k, o, none⟩ = none) : Kp w w' := ⟨m.size, fun k o _ e => (World.cell?_of_block (a := ⟨k, o, none⟩) (m.block k (cell_lt e) (fun d => by rw [hD k d o] at e; cases e))).trans e⟩
namespace D
section runs
variable {P : Program} {w : World} {b o : Nat} {cs : List Value}
theorem run_oneR (h : w.rangeAt b o cs) (ty : TypeId) (j : Nat) {v : Value} (hv : cs[j]? = some v) {d : TypeDesc} (hu : P.underlying ty = some d) (hd : d.isRow = false) :
  (Instr.loadAt ty (pt b (o + j))).run P w = .ok v w := by
 have hagg : (isAgg ty).run P w = .ok false w := by
  unfold isAgg
  rw [Sem.run_bind, run_underlying hu w]
  cases d <;> simp_all
 have hc := h j v hv
 simp [Instr.loadAt, Instr.sureAddr, loadVar, Sem.run_bind, hagg, hc]
end runs
end D
end Go.Proofs.Ythehmmhnacomkaa

namespace Go.Proofs.Ythehmmhnacomkaa
open Go.RowKit D
theorem appG {st et sz bys : Nat} {zv : Value} (hst : Try.prog.underlying st = some (.slice et)) (hin : ∃ i, Try.prog.info? et = some i ∧ i.zero = some zv ∧ i.size = sz ∧ i.bytes = bys) (hzs : zv.cells.size = sz) (hsz : 0 < sz)
  (w : World) (ty : TypeId) (N : Nat) (v : Value) (n : Nat) (xs : List Value) (hown : w.ownsRow N et sz v n xs) (k m c : Nat) (news : List Value) (hl : news.length = m * sz) (hA : At w k news) (h1 : ∀ u ∈ news, u.oneCell' = true) (hm : 0 < m) (h63 : n + m ≤ maxLen) (hb : (n + m) * bys ≤ 140737488355328) (hN : N ≤ w.heap.size) :
  ∃ v' w', (Builtin.append_ #[st, st] ty #[v, .slice (some ⟨k, 0, none⟩) m c]).run Try.prog w = .ok v' w' ∧ w'.ownsRow N et sz v' (n + m) (xs ++ news) ∧ Mk (fun j => v.ownBlock = some j) w w' ∧ (v'.ownBlock = v.ownBlock ∨ v'.ownBlock = some w.heap.size) := by
 obtain ⟨i, hi, hz, hs, hby⟩ := hin
 have hm63 : (m : Int) ≤ 9223372036854775807 := by unfold maxLen at h63; omega
 have hbm : m * bys ≤ 140737488355328 := Nat.le_trans (Nat.mul_le_mul_right _ (by omega)) hb
 have hnews : ∀ j u, news[j]? = some u → w.cell? ((⟨k, 0, none⟩ : Addr).add j) = some u := fun j u hu => by
  rw [Addr.add_mid]; have := hA.1 j u hu; simpa using this
 obtain ⟨v', w', hr, h2, h3, _, h5⟩ := run_append_own_at (P := Try.prog) w N st ty et i _ sz bys hst hi hz hs hby hzs hsz v n xs hown ⟨k, 0, none⟩ m c news hl hnews h1 h63 hb hN
 refine ⟨v', w', hr, h2, ⟨h3.os, h3.tape, h3.output, h3.size, fun j hj hne => h3.block j hj (fun e => hne e.symm), ?_⟩, h5⟩
 rcases hown.2 with ⟨rfl, rfl⟩ | ⟨g, cap, cur, rfl, hbg, hg, hnc, hcm, hcs, htake⟩
 ·have hr2 := run_append_nil (P := Try.prog) w st ty et i _ hst hi hz ⟨k, 0, none⟩ m c news (by rw [hs]; exact hl) hnews hm hm63 (by rw [hby]; omega)
  rw [hr2] at hr
  cases hr
  exact ((Mo.refl w).drew.alloc _ _).2
 ·by_cases hroom : n + m ≤ cap
  ·have hr2 := run_append_room (P := Try.prog) w st ty et i hst hi g n cap cur hg ⟨k, 0, none⟩ m c news (by rw [hs]; exact hl) hnews h1 hroom (by rw [hs, hcs]; exact Nat.mul_le_mul_right _ hroom |> fun h => by first | omega | exact h | (rw [hl]; rw [Nat.add_mul] at h; omega))
   rw [hr2] at hr
   cases hr
   intro a
   by_cases e : a.block = g
   ·have h9 := setRow_heap w g cur (cur.toList.take (n * i.size) ++ news ++ cur.toList.drop (n * i.size + news.length)).toArray et (0, 0) hg
    simp only [World.frozen?, e, h9, hg]
   ·exact World.frozen?_of_block (setRow_other w g a.block _ e)
  ·have hr2 := run_append_grow (P := Try.prog) w st ty et i _ hst hi hz ⟨g, 0, none⟩ n cap xs (by rw [hs]; exact hown.1) (hown.cells (g := g) rfl) ⟨k, 0, none⟩ m c news (by rw [hs]; exact hl) hnews (by omega) (by unfold maxLen at h63; omega) (by rw [hby]; exact growslice_fits (by omega) hb)
   rw [hr2] at hr
   cases hr
   exact ((Mo.refl w).drew.alloc _ _).2
theorem own_form {w : World} {N e sz : Nat} {v : Value} {n : Nat} {xs : List Value} (h : w.ownsRow N e sz v n xs) : ∃ pa cap, v = .slice pa n cap ∧ ∀ a, pa = some a → ∃ g, a = ⟨g, 0, none⟩ := by
 rcases h.2 with ⟨rfl, rfl⟩ | ⟨g, cap, cur, rfl, _⟩
 ·exact ⟨none, 0, rfl, fun _ e => by cases e⟩
 ·exact ⟨_, _, rfl, fun a e => ⟨g, (Option.some.inj e).symm⟩⟩
theorem own_sl {w : World} {N e sz : Nat} {α : Type} {cells : α → List Value} (hl : ∀ x, (cells x).length = sz) {pa : Option Addr} {cap : Nat} {L : List α} (hz : L.length ≤ maxLen) (h : w.ownsRow N e sz (.slice pa L.length cap) L.length (L.flatMap cells)) : SL w sz cells pa L := by
 rcases h.2 with ⟨e, h0⟩ | ⟨g, c2, cur, e, hg, hb, hnc, hcm, hcs, htk⟩
 ·refine ⟨hz, fun i o hi => ?_⟩
  have := lt_of_get hi
  omega
 ·cases e
  refine SL.of_range hl hz (Array.getElem?_eq_some_iff.1 hb).1 (fun j v hv => ?_)
  rw [← htk, List.getElem?_take] at hv
  split at hv
  ·rw [Nat.zero_add]
   simp only [World.cell?, hb]
   simpa using hv
  ·cases hv
theorem own_mo {w w' : World} {N e sz : Nat} {v : Value} {n : Nat} {xs : List Value} (h : w.ownsRow N e sz v n xs) (m : Mo w w') : w'.ownsRow N e sz v n xs :=
 h.kept (row := none) ⟨m.1.os, m.1.tape, m.1.output, m.1.size, fun k hk _ => m.1.block k hk⟩ (by cases e : v.ownBlock <;> simp)
theorem own_lt {w : World} {N e sz : Nat} {v : Value} {n : Nat} {xs : List Value} (h : w.ownsRow N e sz v n xs) {k : Nat} (hk : v.ownBlock = some k) : k < w.heap.size ∧ N ≤ k := by
 rcases h.2 with ⟨rfl, rfl⟩ | ⟨g, cap, cur, rfl, hg, hb, _⟩
 ·cases hk
 ·cases hk; exact ⟨(Array.getElem?_eq_some_iff.1 hb).1, hg⟩
section
variable {o : Oper} {n : Nat} {l : List (Nat × Value)} {w : World} {ops : Array Oper} {rest : List Oper} {Q : Exit → Act → World → Prop}
theorem wl_app {st et sz bys : Nat} {zv : Value} (hst : Try.prog.underlying st = some (.slice et)) (hin : ∃ i, Try.prog.info? et = some i ∧ i.zero = some zv ∧ i.size = sz ∧ i.bytes = bys) (hzs : zv.cells.size = sz) (hsz : 0 < sz) (s x : Operand) (N : Nat) (v : Value) (q : Nat) (xs : List Value) (k m c : Nat) (news : List Value) (ho : o.op = .call { callee := .builtin .append, args := #[s, x], argTypes := #[st, st] }) (hs : evl n l s = v) (hx : evl n l x = .slice (some ⟨k, 0, none⟩) m c)
  (hown : w.ownsRow N et sz v q xs) (hl : news.length = m * sz) (hA : At w k news) (h1 : ∀ u ∈ news, u.oneCell' = true) (hm : 0 < m) (h63 : q + m ≤ maxLen) (hb : (q + m) * bys ≤ 140737488355328) (hN : N ≤ w.heap.size) (hg : wnt n l ops o = true)
  (hk : ∀ v' w', w'.ownsRow N et sz v' (q + m) (xs ++ news) → Mk (fun j => v.ownBlock = some j) w w' → (v'.ownBlock = v.ownBlock ∨ v'.ownBlock = some w.heap.size) → WL Try.prog ops Q rest n (ext l o.dst v') w') : WL Try.prog ops Q (o :: rest) n l w := by
 obtain ⟨v', w', hr, h2, h3, h4⟩ := appG hst hin hzs hsz w o.type N v q xs hown k m c news hl hA h1 hm h63 hb hN
 refine ⟨l_step hg (o_val v' (w' := w') ?_ (hk v' w' h2 h3 h4).out)⟩
 unfold execOp
 simp only [ho, resolve, invoke, builtin, Sem.run_bind, Sem.run_pure, Result.andThen_ok, List.map_toArray, List.map_cons, List.map_nil, hs, hx, hr]
end
end Go.Proofs.Ythehmmhnacomkaa

namespace Go.Proofs.Ythehmmhnacomkaa
open Go.RowKit D
theorem ix56 {pa : Option Addr} {b off i n c : Nat} (hp : pa = some ⟨b, off, none⟩) (h : i < n) (w : World) : (Instr.indexAt 56 (.slice pa n c) (.int .i64 (i : Int))).run Try.prog w = .ok (pt b (off + i * 1)) w := by
 subst hp
 have e : (Instr.indexAt 56 (.slice (some ⟨b, off, none⟩) n c) (.int .i64 (i : Int))).run Try.prog w = .ok (.pointer (some ((⟨b, off, none⟩ : Addr).add (i * 1)))) w := by simp [go_sem, h]
 rw [e, Addr.add_mid]
theorem len56 (ρ : Operand → Value) (x : Operand) (p : Option Addr) (m c : Nat) (hx : ρ x = .slice p m c) (dst : Option Tmp) (type : TypeId) (pos : String) (after : Array Edge) (guard : Option (Nat × Bool)) (w : World) : (execOp ρ { dst, op := .call { callee := .builtin .len, args := #[x], argTypes := #[56] }, type, pos, after, guard }).run Try.prog w = .ok (.value (.int .i64 (m : Int))) w := by
 simp [go_sem, hx]
theorem good_add {x y : Dn} (hx : x.fit) (hy : y.fit) : (addD x y).good := good_fz (sc_max (ck_s hx.2) (ck_s hy.2))
theorem good_says {s : Stp} {x : Dn} (hs : s.fit) (hx : x.fit) : (saysD s x).good := by
 unfold saysD
 split
 next e1 =>
  have g1 := (good_sub hx hs.1).fit e1
  split
  next e2 => exact good_add ((good_mul g1 hs.2.2).fit e2) hs.2.1
  next => exact good_er
 next => exact good_er
theorem lastP_some {p : Nat → Bool} : ∀ {n k : Nat}, k < n → p k = true → (∀ j, k < j → j < n → p j = false) → lastP p n = some k
 | 0, k, h, _, _ => absurd h (Nat.not_lt_zero k)
 | n + 1, k, h, hp, hj => by
  rw [lastP]
  by_cases e : k = n
  ·subst e; rw [if_pos hp]
  ·rw [hj n (by omega) (by omega)]
   simp only [Bool.false_eq_true, if_false]
   exact lastP_some (by omega) hp (fun j a b => hj j a (by omega))
end Go.Proofs.Ythehmmhnacomkaa
namespace Go.Proofs.Ythehmmhnacomkaa
open Go.RowKit D
theorem cm_zero {a b : Int} : cm a b = 0 ↔ a = b := by unfold cm; split; · omega
                                                       split <;> omega
theorem cmp_or (x y : Dn) : cmpD x y = -1 ∨ cmpD x y = 0 ∨ cmpD x y = 1 := by
 unfold cmpD cm
 split; · exact .inl rfl
 split; · exact .inr (.inr rfl)
 exact .inr (.inl rfl)
end Go.Proofs.Ythehmmhnacomkaa
namespace Go.Proofs.Ythehmmhnacomkaa
open Go.RowKit D
theorem qck_n {x : Tb} (w : World) (hT : LT w x) : Calls Try.prog 10 #[ .agg (x.cells).toArray] w fun e9 w' => e9 = .returned (.int .i64 (chkT x.st)) ∧ Mo w w' := by
 refine w_enter 64 Try.func10 Try.ntmps10 rfl rfl ?_
 have M : Mo w w := Mo.refl _
 refine w_seq (w_reg ?_)
 refine wl_box 24 (.tmp 0) _ (((x.cells).toArray)) rfl rfl (fun _ => by kernel_rfl) rfl ?_
 intro k1 u1 hk hz hq Q1
 have N_k1 : w.heap.size ≤ k1 := by have := M.size; omega
 replace M := M.trans hq
 clear hk hz hq
 refine wl_m (.const (.int .i64 (0))) (.int .i64 (0)) ?_
 refine w_nil (xn_then (w_seq (w_seq (w_reg ?_))))
 refine wl_f 24 1 (.tmp 1) (pt k1 0) (pt k1 1) ?_
 refine wl_l 22 (.tmp 6) (pt k1 1) (.slice x.pa x.st.length x.cap) (run_one Q1 22 1 rfl Try.underlying22 rfl) ?_
 refine wl_val (.int .i64 ((x.st.length : Nat) : Int)) (len22 _ _ _ _ _ (by exact rfl) _ _ _ _ _ _) rfl ?_
 cases hf0 : decide (32 < x.st.length) with
 | true =>
  have hf0p := of_decide_eq_true hf0
  refine wl_b .gtr 3 (.tmp 8) (.const (.int .i64 (32))) (.int .i64 ((x.st.length : Nat) : Int)) (.int .i64 (32)) (.bool true) (gtN hf0 _ _ _) ?_
  refine w_nil (xn_then (w_condT rfl (w_seq (w_reg ?_))))
  refine wl_m (.const (.int .i64 (3))) (.int .i64 (3)) ?_
  refine w_nil (xn_then (w_ret (xr_then ?_)))
  exact w_ret1 _ (.int .i64 (3)) rfl rfl ⟨congrArg (fun v => Ending.returned (.int .i64 v)) (Eq.symm (by unfold chkT; rw [if_pos hf0p])), M⟩
 | false =>
  have hf0p := of_decide_eq_false hf0
  refine wl_b .gtr 3 (.tmp 8) (.const (.int .i64 (32))) (.int .i64 ((x.st.length : Nat) : Int)) (.int .i64 (32)) (.bool false) (gtN hf0 _ _ _) ?_
  refine w_nil (xn_then (w_condF rfl (w_skip (xn_then (w_seq (w_seq (w_reg ?_)))))))
  refine wl_f 24 1 (.tmp 1) (pt k1 0) (pt k1 1) ?_
  refine wl_l 22 (.tmp 10) (pt k1 1) (.slice x.pa x.st.length x.cap) (run_one Q1 22 1 rfl Try.underlying22 rfl) ?_
  refine wl_val (.int .i64 ((x.st.length : Nat) : Int)) (len22 _ _ _ _ _ (by exact rfl) _ _ _ _ _ _) rfl ?_
  cases hf1 : decide (((x.st.length : Nat) : Int) = 0) with
  | true =>
   have hf1p := of_decide_eq_true hf1
   refine wl_b .eql 3 (.tmp 12) (.const (.int .i64 (0))) (.int .i64 ((x.st.length : Nat) : Int)) (.int .i64 (0)) (.bool true) (eq3 hf1 _ _ _) ?_
   refine w_nil (xn_then (w_condT rfl (w_seq (w_reg ?_))))
   refine wl_m (.const (.int .i64 (140))) (.int .i64 (140)) ?_
   refine w_nil (xn_then (w_ret (xr_then ?_)))
   exact w_ret1 _ (.int .i64 (140)) rfl rfl ⟨congrArg (fun v => Ending.returned (.int .i64 v)) (Eq.symm (by unfold chkT; rw [if_neg (by omega), if_pos (by omega)])), M⟩
  | false =>
   have hf1p := of_decide_eq_false hf1
   refine wl_b .eql 3 (.tmp 12) (.const (.int .i64 (0))) (.int .i64 ((x.st.length : Nat) : Int)) (.int .i64 (0)) (.bool false) (eq3 hf1 _ _ _) ?_
   refine w_nil (xn_then (w_condF rfl (w_skip (xn_then (w_seq (w_seq (w_reg ?_)))))))
   refine wl_m (.const (.int .i64 (0))) (.int .i64 (0)) ?_
   refine w_nil (xn_then (w_block ?_))
   have hz9 := hT.sl.1
   unfold maxLen at hz9
   refine w_loop (fun m l w1 => ∃ i : Nat, m = x.st.length - i ∧ i ≤ x.st.length ∧ look l 1 = pt k1 0 ∧ look l 3 = .int .i64 ((i : Nat) : Int) ∧ At w1 k1 (x.cells) ∧ (∀ j < i, ∀ y, x.st[j]? = some y → okS y = true) ∧ Mo w w1) _ ⟨0, rfl, Nat.zero_le _, rfl, rfl, Q1, (fun j hj => absurd hj (Nat.not_lt_zero j)), M⟩ ?_
   clear Q1 M
   rintro m l40 wl40 ⟨i, rfl, hi, e40_1, e40_i, Q1, hok, M⟩
   by_cases hil : i < x.st.length
   ·skip
    have hid : decide (i < x.st.length) = true := decide_eq_true hil
    obtain ⟨y, hy⟩ := get_of_lt hil
    have hmy := List.mem_of_getElem? hy
    obtain ⟨bp, op, hpp, hRp⟩ := D.SL.rw hT.sl hy
    refine w_seq (w_seq (w_reg ?_))
    refine wl_mv (.tmp 3) (.int .i64 ((i : Nat) : Int)) (fun _ => rfl) e40_i rfl ?_
    refine wl_un (fun v => Instr.fieldAt 24 v 1) (.tmp 1) (pt k1 0) (pt k1 1) (fun _ => rfl) e40_1 (by kernel_rfl) rfl ?_
    refine wl_l 22 (.tmp 15) (pt k1 1) (.slice x.pa x.st.length x.cap) (run_one Q1 22 1 rfl Try.underlying22 rfl) ?_
    refine wl_val (.int .i64 ((x.st.length : Nat) : Int)) (len22 _ _ _ _ _ (by exact rfl) _ _ _ _ _ _) rfl ?_
    refine wl_b .lss 3 (.tmp 14) (.tmp 17) (.int .i64 ((i : Nat) : Int)) (.int .i64 ((x.st.length : Nat) : Int)) (.bool true) (ltN hid _ _ _) ?_
    refine w_nil (xn_then (w_condT rfl (w_skip (xn_then (w_seq (w_block (w_seq (w_reg ?_))))))))
    refine wl_un (fun v => Instr.fieldAt 24 v 1) (.tmp 1) (pt k1 0) (pt k1 1) (fun _ => rfl) e40_1 (by kernel_rfl) rfl ?_
    refine wl_l 22 (.tmp 21) (pt k1 1) (.slice x.pa x.st.length x.cap) (run_one Q1 22 1 rfl Try.underlying22 rfl) ?_
    refine wl_mv (.tmp 3) (.int .i64 ((i : Nat) : Int)) (fun _ => rfl) e40_i rfl ?_
    refine wl_bin (fun x y => Instr.indexAt 22 x y) (.tmp 22) (.tmp 23) (.slice x.pa x.st.length x.cap) (.int .i64 ((i : Nat) : Int)) (pt bp (op + i * 18)) (fun _ => rfl) rfl rfl (ix22 (i := i) hpp hil _) rfl ?_
    refine wl_l 45 (.tmp 24) (pt bp (op + i * 18)) (.agg (y.cells).toArray) (D.run_partR (hRp.mo M).at' 45 0 18 (y.cells) rfl Try.underlying45 rfl sz45) ?_
    refine wl_alloc 45 #[.bool false, .int .u64 0, .int .u64 0, .int .u64 0, .int .u64 0, .int .i64 0, .bool false, .int .u64 0, .int .u64 0, .int .u64 0, .int .u64 0, .int .i64 0, .bool false, .int .u64 0, .int .u64 0, .int .u64 0, .int .u64 0, .int .i64 0] rfl (fun _ => by kernel_rfl) rfl ?_
    intro k2 u41 hk hz hq Q2
    have ne_k1_k2 : k1 ≠ k2 := by have := Q1.lt; omega
    have N_k2 : w.heap.size ≤ k2 := by have := M.size; omega
    replace Q1 := Q1.mo hq
    replace M := M.trans hq
    clear hk hz hq
    refine wl_st 45 (.tmp 4) (.tmp 25) k2 0 ((y.cells).toArray) _ (y.cells) Q2 rfl rfl rfl rfl rfl sz45 rfl rfl rfl ?_
    intro u42 hS Qn
    replace Q2 := Qn
    clear Qn
    replace Q1 := hS.other _ _ ne_k1_k2 Q1
    replace M := hS.mo _ N_k2 M
    clear hS
    refine w_nil (xn_then (w_seq (w_reg ?_)))
    refine wl_f 45 0 (.tmp 4) (pt k2 0) (pt k2 0) ?_
    refine wl_l 33 (.tmp 26) (pt k2 0) (.agg #[.bool y.a.b, .int .u64 (l0 y.a.n), .int .u64 (l1 y.a.n), .int .u64 (l2 y.a.n), .int .u64 (l3 y.a.n), .int .i64 y.a.s]) (run_row Q2 33 0 6 _ rfl Try.underlying33 rfl sz33) ?_
    refine wl_call 23 [(.tmp 27)] _ [.agg #[.bool y.a.b, .int .u64 (l0 y.a.n), .int .u64 (l1 y.a.n), .int .u64 (l2 y.a.n), .int .u64 (l3 y.a.n), .int .i64 y.a.s]] (.int .i64 (y.a.er)) rfl rfl (fun _ _ => by kernel_rfl) (qchk_n (hT.ok y hmy).1 _) rfl ?_
    intro u43 hq
    replace Q1 := Q1.mo hq
    replace Q2 := Q2.mo hq
    replace M := M.trans hq
    clear hq
    cases hf30 : decide (y.a.er = 0) with
    | true =>
     have hf30p := of_decide_eq_true hf30
     refine wl_b .neq 26 (.tmp 28) (.const (.int .i64 (0))) (.int .i64 (y.a.er)) (.int .i64 (0)) (.bool false) (ne34 hf30 _ _ _) ?_
     refine wl_m (.tmp 29) (.bool false) ?_
     refine wl_f 45 1 (.tmp 4) (pt k2 0) (pt k2 6) ?_
     refine wl_l 33 (.tmp 31) (pt k2 6) (.agg #[.bool y.b.b, .int .u64 (l0 y.b.n), .int .u64 (l1 y.b.n), .int .u64 (l2 y.b.n), .int .u64 (l3 y.b.n), .int .i64 y.b.s]) (run_row Q2 33 6 6 _ rfl Try.underlying33 rfl sz33) ?_
     refine wl_call 23 [(.tmp 32)] _ [.agg #[.bool y.b.b, .int .u64 (l0 y.b.n), .int .u64 (l1 y.b.n), .int .u64 (l2 y.b.n), .int .u64 (l3 y.b.n), .int .i64 y.b.s]] (.int .i64 (y.b.er)) rfl rfl (fun _ _ => by kernel_rfl) (qchk_n (hT.ok y hmy).2.1 _) rfl ?_
     intro u44 hq
     replace Q1 := Q1.mo hq
     replace Q2 := Q2.mo hq
     replace M := M.trans hq
     clear hq
     cases hf31 : decide (y.b.er = 0) with
     | true =>
      have hf31p := of_decide_eq_true hf31
      refine wl_b .neq 26 (.tmp 33) (.const (.int .i64 (0))) (.int .i64 (y.b.er)) (.int .i64 (0)) (.bool false) (ne34 hf31 _ _ _) ?_
      refine wl_pick (.tmp 30) (.const (.bool true)) (.tmp 34) false (.bool false) (fun _ => rfl) rfl rfl rfl ?_
      refine wl_m (.tmp 35) (.bool false) ?_
      refine wl_f 45 2 (.tmp 4) (pt k2 0) (pt k2 12) ?_
      refine wl_l 33 (.tmp 37) (pt k2 12) (.agg #[.bool y.c.b, .int .u64 (l0 y.c.n), .int .u64 (l1 y.c.n), .int .u64 (l2 y.c.n), .int .u64 (l3 y.c.n), .int .i64 y.c.s]) (run_row Q2 33 12 6 _ rfl Try.underlying33 rfl sz33) ?_
      refine wl_call 23 [(.tmp 38)] _ [.agg #[.bool y.c.b, .int .u64 (l0 y.c.n), .int .u64 (l1 y.c.n), .int .u64 (l2 y.c.n), .int .u64 (l3 y.c.n), .int .i64 y.c.s]] (.int .i64 (y.c.er)) rfl rfl (fun _ _ => by kernel_rfl) (qchk_n (hT.ok y hmy).2.2 _) rfl ?_
      intro u45 hq
      replace Q1 := Q1.mo hq
      replace Q2 := Q2.mo hq
      replace M := M.trans hq
      clear hq
      cases hf32 : decide (y.c.er = 0) with
      | true =>
       have hf32p := of_decide_eq_true hf32
       refine wl_b .neq 26 (.tmp 39) (.const (.int .i64 (0))) (.int .i64 (y.c.er)) (.int .i64 (0)) (.bool false) (ne34 hf32 _ _ _) ?_
       refine wl_pick (.tmp 36) (.const (.bool true)) (.tmp 40) false (.bool false) (fun _ => rfl) rfl rfl rfl ?_
       refine w_nil (xn_then (w_condF rfl (w_skip (xn_blk (xn_then (w_reg ?_))))))
       refine wl_mv (.tmp 3) (.int .i64 ((i : Nat) : Int)) (fun _ => rfl) e40_i rfl ?_
       refine wl_b .add 3 (.tmp 19) (.const (.int .i64 (1))) (.int .i64 ((i : Nat) : Int)) (.int .i64 (1)) (.int .i64 ((i + 1 : Nat) : Int)) (add1r (k := i) (by omega) _ _ _) ?_
       refine wl_m (.tmp 20) (.int .i64 ((i + 1 : Nat) : Int)) ?_
       refine w_nil ?_
       exact xn_loop (x.st.length - (i + 1)) (by omega) ⟨i + 1, rfl, by omega, e40_1, rfl, Q1, (ok_next hok hy (by simp [okS, *])), M⟩
      | false =>
       have hf32p := of_decide_eq_false hf32
       refine wl_b .neq 26 (.tmp 39) (.const (.int .i64 (0))) (.int .i64 (y.c.er)) (.int .i64 (0)) (.bool true) (ne34 hf32 _ _ _) ?_
       refine wl_pick (.tmp 36) (.const (.bool true)) (.tmp 40) false (.bool true) (fun _ => rfl) rfl rfl rfl ?_
       refine w_nil (xn_then (w_condT rfl (w_seq (w_reg ?_))))
       refine wl_m (.const (.int .i64 (20))) (.int .i64 (20)) ?_
       refine w_nil (xn_then (w_ret (xr_blk (xr_then (xr_then (xr_blk (xr_then ?_)))))))
       exact w_ret1 _ (.int .i64 (20)) rfl rfl ⟨congrArg (fun v => Ending.returned (.int .i64 v)) (Eq.symm (chk_bad (by omega) (by omega) hmy (by simp [okS, hf30p, hf31p, hf32p]))), M⟩
     | false =>
      have hf31p := of_decide_eq_false hf31
      refine wl_b .neq 26 (.tmp 33) (.const (.int .i64 (0))) (.int .i64 (y.b.er)) (.int .i64 (0)) (.bool true) (ne34 hf31 _ _ _) ?_
      refine wl_pick (.tmp 30) (.const (.bool true)) (.tmp 34) false (.bool true) (fun _ => rfl) rfl rfl rfl ?_
      refine wl_m (.tmp 35) (.bool true) ?_
      refine wl_skip rfl (wl_skip rfl (wl_skip rfl (wl_skip rfl ?_)))
      refine wl_pick (.tmp 36) (.const (.bool true)) (.tmp 40) true (.bool true) (fun _ => rfl) rfl rfl rfl ?_
      refine w_nil (xn_then (w_condT rfl (w_seq (w_reg ?_))))
      refine wl_m (.const (.int .i64 (20))) (.int .i64 (20)) ?_
      refine w_nil (xn_then (w_ret (xr_blk (xr_then (xr_then (xr_blk (xr_then ?_)))))))
      exact w_ret1 _ (.int .i64 (20)) rfl rfl ⟨congrArg (fun v => Ending.returned (.int .i64 v)) (Eq.symm (chk_bad (by omega) (by omega) hmy (by simp [okS, hf30p, hf31p]))), M⟩
    | false =>
     have hf30p := of_decide_eq_false hf30
     refine wl_b .neq 26 (.tmp 28) (.const (.int .i64 (0))) (.int .i64 (y.a.er)) (.int .i64 (0)) (.bool true) (ne34 hf30 _ _ _) ?_
     refine wl_m (.tmp 29) (.bool true) ?_
     refine wl_skip rfl (wl_skip rfl (wl_skip rfl (wl_skip rfl ?_)))
     refine wl_pick (.tmp 30) (.const (.bool true)) (.tmp 34) true (.bool true) (fun _ => rfl) rfl rfl rfl ?_
     refine wl_m (.tmp 35) (.bool true) ?_
     refine wl_skip rfl (wl_skip rfl (wl_skip rfl (wl_skip rfl ?_)))
     refine wl_pick (.tmp 36) (.const (.bool true)) (.tmp 40) true (.bool true) (fun _ => rfl) rfl rfl rfl ?_
     refine w_nil (xn_then (w_condT rfl (w_seq (w_reg ?_))))
     refine wl_m (.const (.int .i64 (20))) (.int .i64 (20)) ?_
     refine w_nil (xn_then (w_ret (xr_blk (xr_then (xr_then (xr_blk (xr_then ?_)))))))
     exact w_ret1 _ (.int .i64 (20)) rfl rfl ⟨congrArg (fun v => Ending.returned (.int .i64 v)) (Eq.symm (chk_bad (by omega) (by omega) hmy (by simp [okS, hf30p]))), M⟩
   ·skip
    have hid : decide (i < x.st.length) = false := decide_eq_false hil
    have hie : i = x.st.length := by omega
    have hall := all_of (by rw [← hie]; exact hok)
    refine w_seq (w_seq (w_reg ?_))
    refine wl_mv (.tmp 3) (.int .i64 ((i : Nat) : Int)) (fun _ => rfl) e40_i rfl ?_
    refine wl_un (fun v => Instr.fieldAt 24 v 1) (.tmp 1) (pt k1 0) (pt k1 1) (fun _ => rfl) e40_1 (by kernel_rfl) rfl ?_
    refine wl_l 22 (.tmp 15) (pt k1 1) (.slice x.pa x.st.length x.cap) (run_one Q1 22 1 rfl Try.underlying22 rfl) ?_
    refine wl_val (.int .i64 ((x.st.length : Nat) : Int)) (len22 _ _ _ _ _ (by exact rfl) _ _ _ _ _ _) rfl ?_
    refine wl_b .lss 3 (.tmp 14) (.tmp 17) (.int .i64 ((i : Nat) : Int)) (.int .i64 ((x.st.length : Nat) : Int)) (.bool false) (ltN hid _ _ _) ?_
    refine w_nil (xn_then (w_condF rfl (w_exit (xx_then (xx_then (xx_blk (xn_then (w_seq (w_seq (w_reg ?_))))))))))
    refine wl_m (.const (.int .i64 (1))) (.int .i64 (1)) ?_
    refine w_nil (xn_then (w_block ?_))
    refine w_loop (fun m l w1 => ∃ i : Nat, m = x.st.length - i ∧ i ≤ x.st.length ∧ look l 1 = pt k1 0 ∧ look l 5 = .int .i64 ((i + 1 : Nat) : Int) ∧ At w1 k1 (x.cells) ∧ (∀ j < i, ∀ a b, x.st[j]? = some a → x.st[j + 1]? = some b → 0 < cmpD b.a a.a) ∧ Mo w w1) _ ⟨0, rfl, Nat.zero_le _, e40_1, rfl, Q1, (fun j hj => absurd hj (Nat.not_lt_zero j)), M⟩ ?_
    clear Q1 M
    rintro m l80 wl80 ⟨i, rfl, hi, e80_1, e80_i, Q1, has, M⟩
    by_cases hil : i + 1 < x.st.length
    ·skip
     have hid : decide (i + 1 < x.st.length) = true := decide_eq_true hil
     obtain ⟨y1, hy1⟩ := get_of_lt hil
     have hmy1 := List.mem_of_getElem? hy1
     obtain ⟨bp, op, hpp, hRp⟩ := D.SL.rw hT.sl hy1
     have hil0 : i < x.st.length := by omega
     obtain ⟨y0, hy0⟩ := get_of_lt hil0
     have hmy0 := List.mem_of_getElem? hy0
     obtain ⟨bq, oq, hpq, hRq⟩ := D.SL.rw hT.sl hy0
     refine w_seq (w_seq (w_reg ?_))
     refine wl_mv (.tmp 5) (.int .i64 ((i + 1 : Nat) : Int)) (fun _ => rfl) e80_i rfl ?_
     refine wl_un (fun v => Instr.fieldAt 24 v 1) (.tmp 1) (pt k1 0) (pt k1 1) (fun _ => rfl) e80_1 (by kernel_rfl) rfl ?_
     refine wl_l 22 (.tmp 43) (pt k1 1) (.slice x.pa x.st.length x.cap) (run_one Q1 22 1 rfl Try.underlying22 rfl) ?_
     refine wl_val (.int .i64 ((x.st.length : Nat) : Int)) (len22 _ _ _ _ _ (by exact rfl) _ _ _ _ _ _) rfl ?_
     refine wl_b .lss 3 (.tmp 42) (.tmp 45) (.int .i64 ((i + 1 : Nat) : Int)) (.int .i64 ((x.st.length : Nat) : Int)) (.bool true) (ltN hid _ _ _) ?_
     refine w_nil (xn_then (w_condT rfl (w_skip (xn_then (w_seq (w_block (w_seq ?_)))))))
     cases hf80 : decide (cmpD y1.a y0.a ≤ 0) with
     | true =>
      have hf80p := of_decide_eq_true hf80
      refine w_any 13 [.inl (pt k1 1), .inl (.slice x.pa x.st.length x.cap), .inl (.int .i64 ((i + 1 : Nat) : Int)), .inl (pt bp (op + (i + 1) * 18)), .inl (pt bp (op + (i + 1) * 18)), .inl (.agg (y1.a.cells).toArray), .inl (pt k1 1), .inl (.slice x.pa x.st.length x.cap), .inl (.int .i64 ((i + 1 : Nat) : Int)), .inl (.int .i64 ((i : Nat) : Int)), .inl (pt bq (oq + i * 18)), .inl (pt bq (oq + i * 18)), .inl (.agg (y0.a.cells).toArray)] [] (by kernel_rfl) (by kernel_rfl) (by kernel_rfl) (by kernel_rfl) rfl (by kernel_rfl) (by kernel_rfl) late_nil ?_ ?_ ?_
      ·exact Ds.none rfl
      ·refine ea_cons ?_ (ea_cons ?_ (ea_cons ?_ (ea_cons ?_ (ea_cons ?_ (ea_cons ?_ (ea_cons ?_ (ea_cons ?_ (ea_cons ?_ (ea_cons ?_ (ea_cons ?_ (ea_cons ?_ (ea_cons ?_ (ea_nil)))))))))))))
       ·exact og_eq _ rfl (fun f wf hq hd K hK => go_run rfl (wo_un (fun v => Instr.fieldAt 24 v 1) (.tmp 1) (pt k1 0) (pt k1 1) (fun _ => rfl) e80_1 (by kernel_rfl) (hK _ (Mo.refl _))))
       ·exact og_eq _ rfl (fun f wf hq hd K hK => have Q1 := Q1.mo hq; go_run rfl (wo_load 22 (.tmp 49) (pt k1 1) (.slice x.pa x.st.length x.cap) rfl (hd 0 rfl) (run_one Q1 22 1 rfl Try.underlying22 rfl) (hK _ (Mo.refl _))))
       ·exact og_eq _ rfl (fun f wf hq hd K hK => go_run rfl (wo_mv (.tmp 5) (.int .i64 ((i + 1 : Nat) : Int)) (fun _ => rfl) e80_i (hK _ (Mo.refl _))))
       ·exact og_eq _ rfl (fun f wf hq hd K hK => go_run rfl (wo_bin (fun x y => Instr.indexAt 22 x y) (.tmp 50) (.tmp 51) (.slice x.pa x.st.length x.cap) (.int .i64 ((i + 1 : Nat) : Int)) (pt bp (op + (i + 1) * 18)) (fun _ => rfl) (hd 1 rfl) (hd 2 rfl) (ix22 (i := i + 1) hpp hil _) (hK _ (Mo.refl _))))
       ·exact og_eq _ rfl (fun f wf hq hd K hK => go_run rfl (wo_un (fun v => Instr.fieldAt 45 v 0) (.tmp 52) (pt bp (op + (i + 1) * 18)) (pt bp (op + (i + 1) * 18)) (fun _ => rfl) (hd 3 rfl) (by kernel_rfl) (hK _ (Mo.refl _))))
       ·exact og_eq _ rfl (fun f wf hq hd K hK => go_run rfl (wo_load 33 (.tmp 53) (pt bp (op + (i + 1) * 18)) (.agg (y1.a.cells).toArray) rfl (hd 4 rfl) (D.run_partR (hRp.mo (M.trans hq)).at' 33 0 6 (y1.a.cells) rfl Try.underlying33 rfl sz33) (hK _ (Mo.refl _))))
       ·exact og_eq _ rfl (fun f wf hq hd K hK => go_run rfl (wo_un (fun v => Instr.fieldAt 24 v 1) (.tmp 1) (pt k1 0) (pt k1 1) (fun _ => rfl) e80_1 (by kernel_rfl) (hK _ (Mo.refl _))))
       ·exact og_eq _ rfl (fun f wf hq hd K hK => have Q1 := Q1.mo hq; go_run rfl (wo_load 22 (.tmp 55) (pt k1 1) (.slice x.pa x.st.length x.cap) rfl (hd 6 rfl) (run_one Q1 22 1 rfl Try.underlying22 rfl) (hK _ (Mo.refl _))))
       ·exact og_eq _ rfl (fun f wf hq hd K hK => go_run rfl (wo_mv (.tmp 5) (.int .i64 ((i + 1 : Nat) : Int)) (fun _ => rfl) e80_i (hK _ (Mo.refl _))))
       ·exact og_eq _ rfl (fun f wf hq hd K hK => go_run rfl (wo_bin (fun x y => do eqGuard .sub 3 (.tmp 57) (.const (.int .i64 (1))) x y; binOp .sub 3 x y) (.tmp 57) (.const (.int .i64 (1))) (.int .i64 ((i + 1 : Nat) : Int)) (.int .i64 (1)) (.int .i64 ((i : Nat) : Int)) (fun _ => rfl) (hd 8 rfl) rfl (sub1r (k := i) (by omega) _ _ _) (hK _ (Mo.refl _))))
       ·exact og_eq _ rfl (fun f wf hq hd K hK => go_run rfl (wo_bin (fun x y => Instr.indexAt 22 x y) (.tmp 56) (.tmp 58) (.slice x.pa x.st.length x.cap) (.int .i64 ((i : Nat) : Int)) (pt bq (oq + i * 18)) (fun _ => rfl) (hd 7 rfl) (hd 9 rfl) (ix22 (i := i) hpq hil0 _) (hK _ (Mo.refl _))))
       ·exact og_eq _ rfl (fun f wf hq hd K hK => go_run rfl (wo_un (fun v => Instr.fieldAt 45 v 0) (.tmp 59) (pt bq (oq + i * 18)) (pt bq (oq + i * 18)) (fun _ => rfl) (hd 10 rfl) (by kernel_rfl) (hK _ (Mo.refl _))))
       ·exact og_eq _ rfl (fun f wf hq hd K hK => go_run rfl (wo_load 33 (.tmp 60) (pt bq (oq + i * 18)) (.agg (y0.a.cells).toArray) rfl (hd 11 rfl) (D.run_partR (hRq.mo (M.trans hq)).at' 33 0 6 (y0.a.cells) rfl Try.underlying33 rfl sz33) (hK _ (Mo.refl _))))
      intro kf81 u81 hq hR hne
      replace Q1 := Q1.mo hq
      replace M := M.trans hq
      clear hq hR hne
      refine wl_call 24 [(.tmp 54), (.tmp 61)] _ [.agg (y1.a.cells).toArray, .agg (y0.a.cells).toArray] (.int .i64 (cmpD y1.a y0.a)) rfl rfl (fun _ _ => by kernel_rfl) (qcmp_n (fit_of hT.ok hall hy1).1 (fit_of hT.ok hall hy0).1 _) rfl ?_
      intro u82 hq
      replace Q1 := Q1.mo hq
      replace M := M.trans hq
      clear hq
      refine wl_b .leq 3 (.tmp 62) (.const (.int .i64 (0))) (.int .i64 (cmpD y1.a y0.a)) (.int .i64 (0)) (.bool true) (le3 hf80 _ _ _) ?_
      refine w_nil (xn_then (w_condT rfl (w_seq (w_reg ?_))))
      refine wl_m (.const (.int .i64 (140))) (.int .i64 (140)) ?_
      refine w_nil (xn_then (w_ret (xr_blk (xr_then (xr_then (xr_blk (xr_then ?_)))))))
      exact w_ret1 _ (.int .i64 (140)) rfl rfl ⟨congrArg (fun v => Ending.returned (.int .i64 v)) (Eq.symm (chk_low (by omega) (by omega) hall hy0 hy1 (by omega))), M⟩
     | false =>
      have hf80p := of_decide_eq_false hf80
      refine w_any 13 [.inl (pt k1 1), .inl (.slice x.pa x.st.length x.cap), .inl (.int .i64 ((i + 1 : Nat) : Int)), .inl (pt bp (op + (i + 1) * 18)), .inl (pt bp (op + (i + 1) * 18)), .inl (.agg (y1.a.cells).toArray), .inl (pt k1 1), .inl (.slice x.pa x.st.length x.cap), .inl (.int .i64 ((i + 1 : Nat) : Int)), .inl (.int .i64 ((i : Nat) : Int)), .inl (pt bq (oq + i * 18)), .inl (pt bq (oq + i * 18)), .inl (.agg (y0.a.cells).toArray)] [] (by kernel_rfl) (by kernel_rfl) (by kernel_rfl) (by kernel_rfl) rfl (by kernel_rfl) (by kernel_rfl) late_nil ?_ ?_ ?_
      ·exact Ds.none rfl
      ·refine ea_cons ?_ (ea_cons ?_ (ea_cons ?_ (ea_cons ?_ (ea_cons ?_ (ea_cons ?_ (ea_cons ?_ (ea_cons ?_ (ea_cons ?_ (ea_cons ?_ (ea_cons ?_ (ea_cons ?_ (ea_cons ?_ (ea_nil)))))))))))))
       ·exact og_eq _ rfl (fun f wf hq hd K hK => go_run rfl (wo_un (fun v => Instr.fieldAt 24 v 1) (.tmp 1) (pt k1 0) (pt k1 1) (fun _ => rfl) e80_1 (by kernel_rfl) (hK _ (Mo.refl _))))
       ·exact og_eq _ rfl (fun f wf hq hd K hK => have Q1 := Q1.mo hq; go_run rfl (wo_load 22 (.tmp 49) (pt k1 1) (.slice x.pa x.st.length x.cap) rfl (hd 0 rfl) (run_one Q1 22 1 rfl Try.underlying22 rfl) (hK _ (Mo.refl _))))
       ·exact og_eq _ rfl (fun f wf hq hd K hK => go_run rfl (wo_mv (.tmp 5) (.int .i64 ((i + 1 : Nat) : Int)) (fun _ => rfl) e80_i (hK _ (Mo.refl _))))
       ·exact og_eq _ rfl (fun f wf hq hd K hK => go_run rfl (wo_bin (fun x y => Instr.indexAt 22 x y) (.tmp 50) (.tmp 51) (.slice x.pa x.st.length x.cap) (.int .i64 ((i + 1 : Nat) : Int)) (pt bp (op + (i + 1) * 18)) (fun _ => rfl) (hd 1 rfl) (hd 2 rfl) (ix22 (i := i + 1) hpp hil _) (hK _ (Mo.refl _))))
       ·exact og_eq _ rfl (fun f wf hq hd K hK => go_run rfl (wo_un (fun v => Instr.fieldAt 45 v 0) (.tmp 52) (pt bp (op + (i + 1) * 18)) (pt bp (op + (i + 1) * 18)) (fun _ => rfl) (hd 3 rfl) (by kernel_rfl) (hK _ (Mo.refl _))))
       ·exact og_eq _ rfl (fun f wf hq hd K hK => go_run rfl (wo_load 33 (.tmp 53) (pt bp (op + (i + 1) * 18)) (.agg (y1.a.cells).toArray) rfl (hd 4 rfl) (D.run_partR (hRp.mo (M.trans hq)).at' 33 0 6 (y1.a.cells) rfl Try.underlying33 rfl sz33) (hK _ (Mo.refl _))))
       ·exact og_eq _ rfl (fun f wf hq hd K hK => go_run rfl (wo_un (fun v => Instr.fieldAt 24 v 1) (.tmp 1) (pt k1 0) (pt k1 1) (fun _ => rfl) e80_1 (by kernel_rfl) (hK _ (Mo.refl _))))
       ·exact og_eq _ rfl (fun f wf hq hd K hK => have Q1 := Q1.mo hq; go_run rfl (wo_load 22 (.tmp 55) (pt k1 1) (.slice x.pa x.st.length x.cap) rfl (hd 6 rfl) (run_one Q1 22 1 rfl Try.underlying22 rfl) (hK _ (Mo.refl _))))
       ·exact og_eq _ rfl (fun f wf hq hd K hK => go_run rfl (wo_mv (.tmp 5) (.int .i64 ((i + 1 : Nat) : Int)) (fun _ => rfl) e80_i (hK _ (Mo.refl _))))
       ·exact og_eq _ rfl (fun f wf hq hd K hK => go_run rfl (wo_bin (fun x y => do eqGuard .sub 3 (.tmp 57) (.const (.int .i64 (1))) x y; binOp .sub 3 x y) (.tmp 57) (.const (.int .i64 (1))) (.int .i64 ((i + 1 : Nat) : Int)) (.int .i64 (1)) (.int .i64 ((i : Nat) : Int)) (fun _ => rfl) (hd 8 rfl) rfl (sub1r (k := i) (by omega) _ _ _) (hK _ (Mo.refl _))))
       ·exact og_eq _ rfl (fun f wf hq hd K hK => go_run rfl (wo_bin (fun x y => Instr.indexAt 22 x y) (.tmp 56) (.tmp 58) (.slice x.pa x.st.length x.cap) (.int .i64 ((i : Nat) : Int)) (pt bq (oq + i * 18)) (fun _ => rfl) (hd 7 rfl) (hd 9 rfl) (ix22 (i := i) hpq hil0 _) (hK _ (Mo.refl _))))
       ·exact og_eq _ rfl (fun f wf hq hd K hK => go_run rfl (wo_un (fun v => Instr.fieldAt 45 v 0) (.tmp 59) (pt bq (oq + i * 18)) (pt bq (oq + i * 18)) (fun _ => rfl) (hd 10 rfl) (by kernel_rfl) (hK _ (Mo.refl _))))
       ·exact og_eq _ rfl (fun f wf hq hd K hK => go_run rfl (wo_load 33 (.tmp 60) (pt bq (oq + i * 18)) (.agg (y0.a.cells).toArray) rfl (hd 11 rfl) (D.run_partR (hRq.mo (M.trans hq)).at' 33 0 6 (y0.a.cells) rfl Try.underlying33 rfl sz33) (hK _ (Mo.refl _))))
      intro kf81 u81 hq hR hne
      replace Q1 := Q1.mo hq
      replace M := M.trans hq
      clear hq hR hne
      refine wl_call 24 [(.tmp 54), (.tmp 61)] _ [.agg (y1.a.cells).toArray, .agg (y0.a.cells).toArray] (.int .i64 (cmpD y1.a y0.a)) rfl rfl (fun _ _ => by kernel_rfl) (qcmp_n (fit_of hT.ok hall hy1).1 (fit_of hT.ok hall hy0).1 _) rfl ?_
      intro u82 hq
      replace Q1 := Q1.mo hq
      replace M := M.trans hq
      clear hq
      refine wl_b .leq 3 (.tmp 62) (.const (.int .i64 (0))) (.int .i64 (cmpD y1.a y0.a)) (.int .i64 (0)) (.bool false) (le3 hf80 _ _ _) ?_
      refine w_nil (xn_then (w_condF rfl (w_skip (xn_blk (xn_then (w_reg ?_))))))
      refine wl_mv (.tmp 5) (.int .i64 ((i + 1 : Nat) : Int)) (fun _ => rfl) e80_i rfl ?_
      refine wl_b .add 3 (.tmp 47) (.const (.int .i64 (1))) (.int .i64 ((i + 1 : Nat) : Int)) (.int .i64 (1)) (.int .i64 ((i + 1 + 1 : Nat) : Int)) (add1r (k := i + 1) (by omega) _ _ _) ?_
      refine wl_m (.tmp 48) (.int .i64 ((i + 1 + 1 : Nat) : Int)) ?_
      refine w_nil ?_
      exact xn_loop (x.st.length - (i + 1)) (by omega) ⟨i + 1, rfl, by omega, e80_1, rfl, Q1, (as_next has hy0 hy1 (by omega)), M⟩
    ·skip
     have hid : decide (i + 1 < x.st.length) = false := decide_eq_false hil
     refine w_seq (w_seq (w_reg ?_))
     refine wl_mv (.tmp 5) (.int .i64 ((i + 1 : Nat) : Int)) (fun _ => rfl) e80_i rfl ?_
     refine wl_un (fun v => Instr.fieldAt 24 v 1) (.tmp 1) (pt k1 0) (pt k1 1) (fun _ => rfl) e80_1 (by kernel_rfl) rfl ?_
     refine wl_l 22 (.tmp 43) (pt k1 1) (.slice x.pa x.st.length x.cap) (run_one Q1 22 1 rfl Try.underlying22 rfl) ?_
     refine wl_val (.int .i64 ((x.st.length : Nat) : Int)) (len22 _ _ _ _ _ (by exact rfl) _ _ _ _ _ _) rfl ?_
     refine wl_b .lss 3 (.tmp 42) (.tmp 45) (.int .i64 ((i + 1 : Nat) : Int)) (.int .i64 ((x.st.length : Nat) : Int)) (.bool false) (ltN hid _ _ _) ?_
     refine w_nil (xn_then (w_condF rfl (w_exit (xx_then (xx_then (xx_blk (xn_then (w_seq (w_reg ?_)))))))))
     refine wl_m (.const (.int .i64 (0))) (.int .i64 (0)) ?_
     refine w_nil (xn_then (w_ret ?_))
     exact w_ret1 _ (.int .i64 (0)) rfl rfl ⟨congrArg (fun v => Ending.returned (.int .i64 v)) (Eq.symm (chk_fine (by omega) (by omega) hall (as_end has (by omega)))), M⟩
end Go.Proofs.Ythehmmhnacomkaa
namespace Go.Proofs.Ythehmmhnacomkaa
open Go.RowKit D
theorem inf3 : ∃ i, Try.prog.info? 3 = some i ∧ i.zero = some (.int .i64 0) ∧ i.size = 1 ∧ i.bytes = 8 := by
 have h : (Try.prog.info? 3).map (fun i => (i.zero, i.size, i.bytes)) = some (some (.int .i64 0), 1, 8) := by kernel_rfl
 cases hi : Try.prog.info? 3 with
 | none => rw [hi] at h; cases h
 | some i =>
  rw [hi] at h
  simp at h
  exact ⟨i, rfl, h.1, h.2.1, h.2.2⟩
def jE : List Stp → Int
 | x :: y :: r => if (saysD x y.a).e = 0 then jE (y :: r) else (saysD x y.a).e
 | _ => 0
def jcL : List Stp → List Int
 | x :: y :: r => cmpD y.b (saysD x y.a).d :: jcL (y :: r)
 | _ => []
def NE (L : List Stp) (i : Nat) : Prop := ∀ j < i, ∀ a b, L[j]? = some a → L[j + 1]? = some b → (saysD a b.a).e = 0
theorem jE_at : ∀ {L : List Stp} {i : Nat} {x y : Stp}, L[i]? = some x → L[i + 1]? = some y → NE L i → ¬ (saysD x y.a).e = 0 → jE L = (saysD x y.a).e
 | [], i, x, y, hx, _, _, _ => by simp at hx
 | [_], i, x, y, _, hy, _, _ => by simp at hy
 | a :: b :: r, i, x, y, hx, hy, hN, h => by
  rw [jE]
  cases i with
  | zero => simp at hx hy; subst hx hy; rw [if_neg h]
  | succ i =>
   rw [if_pos (hN 0 (by omega) a b rfl rfl)]
   exact jE_at (by simpa using hx) (by simpa using hy) (fun j hj c d hc hd => hN (j + 1) (by omega) c d (by simpa using hc) (by simpa using hd)) h
theorem jE_0 : ∀ {L : List Stp}, NE L L.length → jE L = 0
 | [], _ => rfl
 | [_], _ => rfl
 | a :: b :: r, h => by
  rw [jE, if_pos (h 0 (by simp) a b rfl rfl)]
  exact jE_0 (fun j hj c d hc hd => h (j + 1) (by simp at hj ⊢; omega) c d (by simpa using hc) (by simpa using hd))
theorem jE_no : ∀ {L : List Stp}, jE L = 0 → ∀ {i : Nat} {x y : Stp}, L[i]? = some x → L[i + 1]? = some y → (saysD x y.a).e = 0
 | [], _, i, x, y, hx, _ => by simp at hx
 | [_], _, i, x, y, _, hy => by simp at hy
 | a :: b :: r, h, i, x, y, hx, hy => by
  rw [jE] at h
  split at h
  next h0 =>
   cases i with
   | zero => simp at hx hy; subst hx hy; exact h0
   | succ i => exact jE_no h (by simpa using hx) (by simpa using hy)
  next h0 => exact absurd h h0
theorem jcL_at : ∀ {L : List Stp} {i : Nat} {x y : Stp}, L[i]? = some x → L[i + 1]? = some y → (jcL L)[i]? = some (cmpD y.b (saysD x y.a).d)
 | [], i, x, y, hx, _ => by simp at hx
 | [_], i, x, y, _, hy => by simp at hy
 | a :: b :: r, i, x, y, hx, hy => by
  rw [jcL]
  cases i with
  | zero => simp at hx hy; subst hx hy; rfl
  | succ i => exact jcL_at (by simpa using hx) (by simpa using hy)
theorem jcL_len : ∀ L : List Stp, (jcL L).length = L.length - 1
 | [] => rfl
 | [_] => rfl
 | a :: b :: r => by rw [jcL, List.length_cons, jcL_len (b :: r)]; simp
theorem jcL_or : ∀ {L : List Stp} {n : Int}, n ∈ jcL L → n = -1 ∨ n = 0 ∨ n = 1
 | [], n, h => by simp [jcL] at h
 | [_], n, h => by simp [jcL] at h
 | a :: b :: r, n, h => by
  rw [jcL] at h
  rcases List.mem_cons.1 h with rfl | h
  ·exact cmp_or _ _
  ·exact jcL_or h
theorem ne_next {L : List Stp} {i : Nat} {x y : Stp} (h : NE L i) (hx : L[i]? = some x) (hy : L[i + 1]? = some y) (hk : (saysD x y.a).e = 0) : NE L (i + 1) := by
 intro j hj a b ha hb
 by_cases e : j = i
 ·subst e; rw [hx] at ha; rw [hy] at hb; cases ha; cases hb; exact hk
 ·exact h j (by omega) a b ha hb
theorem ne_end {L : List Stp} {i : Nat} (h : NE L i) (hi : ¬ i + 1 < L.length) : jE L = 0 :=
 jE_0 (fun j _ a b ha hb => h j (by have := lt_of_get hb; omega) a b ha hb)
def rsE (L : List Stp) : Int := if chkT L = 0 then jE L else chkT L
theorem take_next {α : Type} {L : List α} {i : Nat} {x : α} (h : L[i]? = some x) : L.take (i + 1) = L.take i ++ [x] := by rw [List.take_add_one, h]; rfl
def ic (i : Int) : List Value := [.int .i64 i]
abbrev SI (w : World) (pa : Option Addr) (l : List Int) : Prop := SL w 1 ic pa l
theorem own_nil (w : World) (N : Nat) : w.ownsRow N 3 1 (.slice none 0 0) 0 [] := ⟨by simp, Or.inl ⟨rfl, rfl⟩⟩
theorem jumps_n {x : Tb} (w : World) (hT : LT w x) : Calls Try.prog 35 #[.agg (x.cells).toArray] w fun e9 w' => ∃ pa cap, e9 = .returned (.tuple #[.slice pa (if rsE x.st = 0 then jcL x.st else []).length cap, .int .i64 (rsE x.st)]) ∧ SI w' pa (if rsE x.st = 0 then jcL x.st else []) ∧ Mo w w' := by
 refine w_enter 52 Try.func35 Try.ntmps35 rfl rfl ?_
 have M : Mo w w := Mo.refl _
 refine w_seq (w_reg ?_)
 refine wl_box 24 (.tmp 0) _ (((x.cells).toArray)) rfl rfl (fun _ => by kernel_rfl) rfl ?_
 intro k1 u1 hk hz hq Q1
 have N_k1 : w.heap.size ≤ k1 := by have := M.size; omega
 replace M := M.trans hq
 clear hk hz hq
 refine wl_m (.const (.slice none 0 0)) (.slice none 0 0) ?_
 refine wl_m (.const (.int .i64 (0))) (.int .i64 (0)) ?_
 refine w_nil (xn_then (w_seq (w_seq (w_reg ?_))))
 refine wl_l 24 (.tmp 1) (pt k1 0) (.agg (x.cells).toArray) (run_row Q1 24 0 2 (x.cells) rfl Try.underlying24 rfl szT24) ?_
 refine wl_call 9 [(.tmp 9)] _ [.agg (x.cells).toArray] (.int .i64 (chkT x.st)) rfl rfl (fun _ _ => by kernel_rfl) (pck_n _ (hT.mo M)) rfl ?_
 intro u2 hq
 replace Q1 := Q1.mo hq
 replace M := M.trans hq
 clear hq
 refine wl_m (.tmp 10) (.int .i64 (chkT x.st)) ?_
 refine w_nil (xn_then (w_seq (w_reg ?_)))
 refine wl_m (.tmp 4) (.int .i64 (chkT x.st)) ?_
 cases hf0 : decide (chkT x.st = 0) with
 | true =>
  have hf0p := of_decide_eq_true hf0
  refine wl_b .neq 26 (.tmp 11) (.const (.int .i64 (0))) (.int .i64 (chkT x.st)) (.int .i64 (0)) (.bool false) (ne34 hf0 _ _ _) ?_
  refine w_nil (xn_then (w_condF rfl (w_skip (xn_then (w_seq (w_reg ?_))))))
  refine wl_m (.const (.slice none 0 0)) (.slice none 0 0) ?_
  refine w_nil (xn_then (w_seq (w_seq (w_reg ?_))))
  refine wl_m (.const (.int .i64 (1))) (.int .i64 (1)) ?_
  refine w_nil (xn_then (w_block ?_))
  obtain ⟨hl32, _, hall, _⟩ := chk_0 hf0p
  obtain ⟨N9, hN9⟩ : ∃ N9, N9 = u2.heap.size := ⟨_, rfl⟩
  have hk9 : k1 < N9 := by have := Q1.lt; omega
  have hw9 : w.heap.size ≤ N9 := by have := M.size; omega
  refine w_loop (fun m l w1 => ∃ i : Nat, m = x.st.length - i ∧ i ≤ x.st.length ∧ look l 1 = pt k1 0 ∧ look l 6 = .int .i64 ((i + 1 : Nat) : Int) ∧ At w1 k1 (x.cells) ∧ (∀ k, look l 7 = pt k 0 → k < w1.heap.size) ∧ (N9 ≤ w1.heap.size) ∧ (NE x.st i) ∧ (∃ pa cap, look l 5 = .slice pa ((jcL x.st).take i).length cap ∧ w1.ownsRow N9 3 1 (.slice pa ((jcL x.st).take i).length cap) ((jcL x.st).take i).length (((jcL x.st).take i).flatMap ic)) ∧ Mo w w1) _ ⟨0, rfl, Nat.zero_le _, rfl, rfl, Q1, (fun k e => by cases e), (Nat.le_of_eq hN9), (fun j hj => absurd hj (Nat.not_lt_zero j)), ⟨none, 0, rfl, own_nil _ _⟩, M⟩ ?_
  clear Q1 M
  rintro m l40 wl40 ⟨i, rfl, hi, e40_1, e40_i, Q1, d7, hNw, hne, ⟨pa5, cap5, e5, hown⟩, M⟩
  by_cases hil : i + 1 < x.st.length
  ·skip
   have hid : decide (i + 1 < x.st.length) = true := decide_eq_true hil
   have MB := M
   replace M : Mo wl40 wl40 := Mo.refl _
   have hTB := hT.mo MB
   have hN0 := hNw
   have hown0 := hown
   have hil0 : i < x.st.length := by omega
   obtain ⟨y1, hy1⟩ := get_of_lt hil
   have hmy1 := List.mem_of_getElem? hy1
   obtain ⟨bp, op, hpp, hRp⟩ := D.SL.rw hTB.sl hy1
   obtain ⟨y0, hy0⟩ := get_of_lt hil0
   have hmy0 := List.mem_of_getElem? hy0
   obtain ⟨bq, oq, hpq, hRq⟩ := D.SL.rw hTB.sl hy0
   refine w_seq (w_seq (w_reg ?_))
   refine wl_mv (.tmp 6) (.int .i64 ((i + 1 : Nat) : Int)) (fun _ => rfl) e40_i rfl ?_
   refine wl_un (fun v => Instr.fieldAt 24 v 1) (.tmp 1) (pt k1 0) (pt k1 1) (fun _ => rfl) e40_1 (by kernel_rfl) rfl ?_
   refine wl_l 22 (.tmp 15) (pt k1 1) (.slice x.pa x.st.length x.cap) (run_one Q1 22 1 rfl Try.underlying22 rfl) ?_
   refine wl_val (.int .i64 ((x.st.length : Nat) : Int)) (len22 _ _ _ _ _ (by exact rfl) _ _ _ _ _ _) rfl ?_
   refine wl_b .lss 3 (.tmp 14) (.tmp 17) (.int .i64 ((i + 1 : Nat) : Int)) (.int .i64 ((x.st.length : Nat) : Int)) (.bool true) (ltN hid _ _ _) ?_
   refine w_nil (xn_then (w_condT rfl (w_skip (xn_then (w_seq (w_block (w_seq ?_)))))))
   refine w_any 17 [.inl (pt k1 1), .inl (.slice x.pa x.st.length x.cap), .inl (.int .i64 ((i + 1 : Nat) : Int)), .inl (.int .i64 ((i : Nat) : Int)), .inl (pt bq (oq + i * 18)), .inl (.agg (y0.cells).toArray), .inl (pt k1 1), .inl (.slice x.pa x.st.length x.cap), .inl (.int .i64 ((i + 1 : Nat) : Int)), .inl (pt bp (op + (i + 1) * 18)), .inl (pt bp (op + (i + 1) * 18)), .inl (.agg (y1.a.cells).toArray), .inl (.tuple #[.agg ((saysD y0 y1.a).d.cells).toArray, .int .i64 ((saysD y0 y1.a).e)]), .inl (.tuple #[.agg ((saysD y0 y1.a).d.cells).toArray, .int .i64 ((saysD y0 y1.a).e)]), .inl (.agg ((saysD y0 y1.a).d.cells).toArray), .inl (.int .i64 ((saysD y0 y1.a).e)), .inr [.bool false, .int .u64 0, .int .u64 0, .int .u64 0, .int .u64 0, .int .i64 0]] [15] (by kernel_rfl) (by kernel_rfl) (by kernel_rfl) (by kernel_rfl) rfl (by kernel_rfl) (by kernel_rfl) (late_cons ⟨_, _, rfl, rfl, fun _ _ _ _ h => h, fun f hd => ⟨rfl, la_un (fun v => Instr.extract v 1) (.tmp 21) (.tuple #[.agg ((saysD y0 y1.a).d.cells).toArray, .int .i64 ((saysD y0 y1.a).e)]) (.int .i64 ((saysD y0 y1.a).e)) (fun _ => rfl) (hd 13 rfl _ rfl) (fun w => by kernel_rfl)⟩⟩ late_nil) ?_ ?_ ?_
   ·exact Ds.one 16 (fun q hq => by rcases q with _ | _ | _ | _ | _ | _ | _ | _ | _ | _ | _ | _ | _ | _ | _ | _ | _ | _ | _ | q <;> first | rfl | cases hq) d7
   ·refine ea_cons ?_ (ea_cons ?_ (ea_cons ?_ (ea_cons ?_ (ea_cons ?_ (ea_cons ?_ (ea_cons ?_ (ea_cons ?_ (ea_cons ?_ (ea_cons ?_ (ea_cons ?_ (ea_cons ?_ (ea_cons ?_ (ea_cons ?_ (ea_cons ?_ (ea_cons ?_ (ea_cons ?_ (ea_nil)))))))))))))))))
    ·exact og_eq _ rfl (fun f wf hq hd K hK => go_run rfl (wo_un (fun v => Instr.fieldAt 24 v 1) (.tmp 1) (pt k1 0) (pt k1 1) (fun _ => rfl) e40_1 (by kernel_rfl) (hK _ (Mo.refl _))))
    ·exact og_eq _ rfl (fun f wf hq hd K hK => have Q1 := Q1.mo hq; go_run rfl (wo_load 22 (.tmp 22) (pt k1 1) (.slice x.pa x.st.length x.cap) rfl (hd 0 rfl) (run_one Q1 22 1 rfl Try.underlying22 rfl) (hK _ (Mo.refl _))))
    ·exact og_eq _ rfl (fun f wf hq hd K hK => go_run rfl (wo_mv (.tmp 6) (.int .i64 ((i + 1 : Nat) : Int)) (fun _ => rfl) e40_i (hK _ (Mo.refl _))))
    ·exact og_eq _ rfl (fun f wf hq hd K hK => go_run rfl (wo_bin (fun x y => do eqGuard .sub 3 (.tmp 24) (.const (.int .i64 (1))) x y; binOp .sub 3 x y) (.tmp 24) (.const (.int .i64 (1))) (.int .i64 ((i + 1 : Nat) : Int)) (.int .i64 (1)) (.int .i64 ((i : Nat) : Int)) (fun _ => rfl) (hd 2 rfl) rfl (sub1r (k := i) (by omega) _ _ _) (hK _ (Mo.refl _))))
    ·exact og_eq _ rfl (fun f wf hq hd K hK => go_run rfl (wo_bin (fun x y => Instr.indexAt 22 x y) (.tmp 23) (.tmp 25) (.slice x.pa x.st.length x.cap) (.int .i64 ((i : Nat) : Int)) (pt bq (oq + i * 18)) (fun _ => rfl) (hd 1 rfl) (hd 3 rfl) (ix22 (i := i) hpq hil0 _) (hK _ (Mo.refl _))))
    ·exact og_eq _ rfl (fun f wf hq hd K hK => go_run rfl (wo_load 45 (.tmp 26) (pt bq (oq + i * 18)) (.agg (y0.cells).toArray) rfl (hd 4 rfl) (D.run_partR (hRq.mo (M.trans hq)).at' 45 0 18 (y0.cells) rfl Try.underlying45 rfl sz45) (hK _ (Mo.refl _))))
    ·exact og_eq _ rfl (fun f wf hq hd K hK => go_run rfl (wo_un (fun v => Instr.fieldAt 24 v 1) (.tmp 1) (pt k1 0) (pt k1 1) (fun _ => rfl) e40_1 (by kernel_rfl) (hK _ (Mo.refl _))))
    ·exact og_eq _ rfl (fun f wf hq hd K hK => have Q1 := Q1.mo hq; go_run rfl (wo_load 22 (.tmp 28) (pt k1 1) (.slice x.pa x.st.length x.cap) rfl (hd 6 rfl) (run_one Q1 22 1 rfl Try.underlying22 rfl) (hK _ (Mo.refl _))))
    ·exact og_eq _ rfl (fun f wf hq hd K hK => go_run rfl (wo_mv (.tmp 6) (.int .i64 ((i + 1 : Nat) : Int)) (fun _ => rfl) e40_i (hK _ (Mo.refl _))))
    ·exact og_eq _ rfl (fun f wf hq hd K hK => go_run rfl (wo_bin (fun x y => Instr.indexAt 22 x y) (.tmp 29) (.tmp 30) (.slice x.pa x.st.length x.cap) (.int .i64 ((i + 1 : Nat) : Int)) (pt bp (op + (i + 1) * 18)) (fun _ => rfl) (hd 7 rfl) (hd 8 rfl) (ix22 (i := i + 1) hpp hil _) (hK _ (Mo.refl _))))
    ·exact og_eq _ rfl (fun f wf hq hd K hK => go_run rfl (wo_un (fun v => Instr.fieldAt 45 v 0) (.tmp 31) (pt bp (op + (i + 1) * 18)) (pt bp (op + (i + 1) * 18)) (fun _ => rfl) (hd 9 rfl) (by kernel_rfl) (hK _ (Mo.refl _))))
    ·exact og_eq _ rfl (fun f wf hq hd K hK => go_run rfl (wo_load 33 (.tmp 32) (pt bp (op + (i + 1) * 18)) (.agg (y1.a.cells).toArray) rfl (hd 10 rfl) (D.run_partR (hRp.mo (M.trans hq)).at' 33 0 6 (y1.a.cells) rfl Try.underlying33 rfl sz33) (hK _ (Mo.refl _))))
    ·exact og_eq _ rfl (fun f wf hq hd K hK => go_run rfl (wo_call 32 [(.tmp 27), (.tmp 33)] _ [.agg (y0.cells).toArray, .agg (y1.a.cells).toArray] (.tuple #[.agg ((saysD y0 y1.a).d.cells).toArray, .int .i64 ((saysD y0 y1.a).e)]) rfl (li2 (hd 5 rfl) (hd 11 rfl)) (fun _ _ => by kernel_rfl) (psays_n _ (fit_of hT.ok hall hy0) (fit_of hT.ok hall hy1).1) hK))
    ·exact og_eq _ rfl (fun f wf hq hd K hK => go_run rfl (wo_mv (.tmp 34) (.tuple #[.agg ((saysD y0 y1.a).d.cells).toArray, .int .i64 ((saysD y0 y1.a).e)]) (fun _ => rfl) (hd 12 rfl) (hK _ (Mo.refl _))))
    ·exact og_eq _ rfl (fun f wf hq hd K hK => go_run rfl (wo_un (fun v => Instr.extract v 0) (.tmp 21) (.tuple #[.agg ((saysD y0 y1.a).d.cells).toArray, .int .i64 ((saysD y0 y1.a).e)]) (.agg ((saysD y0 y1.a).d.cells).toArray) (fun _ => rfl) (hd 13 rfl) (by kernel_rfl) (hK _ (Mo.refl _))))
    ·exact og_eq _ rfl (fun f wf hq hd K hK => go_run rfl (wo_un (fun v => Instr.extract v 1) (.tmp 21) (.tuple #[.agg ((saysD y0 y1.a).d.cells).toArray, .int .i64 ((saysD y0 y1.a).e)]) (.int .i64 ((saysD y0 y1.a).e)) (fun _ => rfl) (hd 13 rfl) (by kernel_rfl) (hK _ (Mo.refl _))))
    ·exact og_new [.bool false, .int .u64 0, .int .u64 0, .int .u64 0, .int .u64 0, .int .i64 0] rfl (fun f wf hq hd K hK => go_run rfl (wo_alloc 33 #[.bool false, .int .u64 0, .int .u64 0, .int .u64 0, .int .u64 0, .int .i64 0] rfl (fun _ => by kernel_rfl) hK))
   intro kf41 u41 hq hR hne
   obtain ⟨N_k2, Q2⟩ := hR 16 _ rfl rfl
   have ne_k1_k2 : k1 ≠ (kf41 16) := by have := Q1.lt; omega
   replace N_k2 := Nat.le_trans M.size N_k2
   replace Q1 := Q1.mo hq
   replace M := M.trans hq
   clear hq hR hne
   refine wl_st 33 (.tmp 7) (.tmp 35) (kf41 16) 0 (((saysD y0 y1.a).d.cells).toArray) _ ((saysD y0 y1.a).d.cells) Q2 rfl rfl rfl rfl rfl sz33 rfl rfl rfl ?_
   intro u42 hS Qn
   replace Q2 := Qn
   clear Qn
   replace Q1 := hS.other _ _ ne_k1_k2 Q1
   replace M := hS.mo _ N_k2 M
   clear hS
   refine wl_m (.tmp 36) (.int .i64 ((saysD y0 y1.a).e)) ?_
   refine w_nil (xn_then (w_seq (w_seq (w_reg ?_))))
   refine wl_m (.tmp 8) (.int .i64 ((saysD y0 y1.a).e)) ?_
   cases hf30 : decide ((saysD y0 y1.a).e = 0) with
   | true =>
    have hf30p := of_decide_eq_true hf30
    refine wl_b .neq 26 (.tmp 37) (.const (.int .i64 (0))) (.int .i64 ((saysD y0 y1.a).e)) (.int .i64 (0)) (.bool false) (ne34 hf30 _ _ _) ?_
    refine w_nil (xn_then (w_condF rfl (w_skip (xn_then ?_))))
    refine w_any 9 [.inl (.slice pa5 ((jcL x.st).take i).length cap5), .inl (pt k1 1), .inl (.slice x.pa x.st.length x.cap), .inl (.int .i64 ((i + 1 : Nat) : Int)), .inl (pt bp (op + (i + 1) * 18)), .inl (pt bp (op + (i + 1) * 18 + 6)), .inl (.agg (y1.b.cells).toArray), .inl (.agg ((saysD y0 y1.a).d.cells).toArray), .inl (.int .i64 (cmpD y1.b (saysD y0 y1.a).d))] [0] (by kernel_rfl) (by kernel_rfl) (by kernel_rfl) (by kernel_rfl) rfl (by kernel_rfl) (by kernel_rfl) (late_cons ⟨_, _, rfl, rfl, fun _ _ _ _ h => h, fun f hd => ⟨rfl, la_mv (.tmp 5) (.slice pa5 ((jcL x.st).take i).length cap5) (fun _ => rfl) e5⟩⟩ late_nil) ?_ ?_ ?_
    ·exact Ds.none rfl
    ·refine ea_cons ?_ (ea_cons ?_ (ea_cons ?_ (ea_cons ?_ (ea_cons ?_ (ea_cons ?_ (ea_cons ?_ (ea_cons ?_ (ea_cons ?_ (ea_nil)))))))))
     ·exact og_eq _ rfl (fun f wf hq hd K hK => go_run rfl (wo_mv (.tmp 5) (.slice pa5 ((jcL x.st).take i).length cap5) (fun _ => rfl) e5 (hK _ (Mo.refl _))))
     ·exact og_eq _ rfl (fun f wf hq hd K hK => go_run rfl (wo_un (fun v => Instr.fieldAt 24 v 1) (.tmp 1) (pt k1 0) (pt k1 1) (fun _ => rfl) e40_1 (by kernel_rfl) (hK _ (Mo.refl _))))
     ·exact og_eq _ rfl (fun f wf hq hd K hK => have Q1 := Q1.mo hq; go_run rfl (wo_load 22 (.tmp 41) (pt k1 1) (.slice x.pa x.st.length x.cap) rfl (hd 1 rfl) (run_one Q1 22 1 rfl Try.underlying22 rfl) (hK _ (Mo.refl _))))
     ·exact og_eq _ rfl (fun f wf hq hd K hK => go_run rfl (wo_mv (.tmp 6) (.int .i64 ((i + 1 : Nat) : Int)) (fun _ => rfl) e40_i (hK _ (Mo.refl _))))
     ·exact og_eq _ rfl (fun f wf hq hd K hK => go_run rfl (wo_bin (fun x y => Instr.indexAt 22 x y) (.tmp 42) (.tmp 43) (.slice x.pa x.st.length x.cap) (.int .i64 ((i + 1 : Nat) : Int)) (pt bp (op + (i + 1) * 18)) (fun _ => rfl) (hd 2 rfl) (hd 3 rfl) (ix22 (i := i + 1) hpp hil _) (hK _ (Mo.refl _))))
     ·exact og_eq _ rfl (fun f wf hq hd K hK => go_run rfl (wo_un (fun v => Instr.fieldAt 45 v 1) (.tmp 44) (pt bp (op + (i + 1) * 18)) (pt bp (op + (i + 1) * 18 + 6)) (fun _ => rfl) (hd 4 rfl) (by kernel_rfl) (hK _ (Mo.refl _))))
     ·exact og_eq _ rfl (fun f wf hq hd K hK => go_run rfl (wo_load 33 (.tmp 45) (pt bp (op + (i + 1) * 18 + 6)) (.agg (y1.b.cells).toArray) rfl (hd 5 rfl) (D.run_partR (hRp.mo (M.trans hq)).at' 33 6 6 (y1.b.cells) rfl Try.underlying33 rfl sz33) (hK _ (Mo.refl _))))
     ·exact og_eq _ rfl (fun f wf hq hd K hK => have Q2 := Q2.mo hq; go_run rfl (wo_load 33 (.tmp 7) (pt (kf41 16) 0) (.agg ((saysD y0 y1.a).d.cells).toArray) rfl rfl (run_row Q2 33 0 6 ((saysD y0 y1.a).d.cells) rfl Try.underlying33 rfl sz33) (hK _ (Mo.refl _))))
     ·exact og_eq _ rfl (fun f wf hq hd K hK => go_run rfl (wo_call 27 [(.tmp 46), (.tmp 47)] _ [.agg (y1.b.cells).toArray, .agg ((saysD y0 y1.a).d.cells).toArray] (.int .i64 (cmpD y1.b (saysD y0 y1.a).d)) rfl (li2 (hd 6 rfl) (hd 7 rfl)) (fun _ _ => by kernel_rfl) (pcmp_n (fit_of hT.ok hall hy1).2.1 ((good_says (fit_of hT.ok hall hy0) (fit_of hT.ok hall hy1).1).fit hf30p) _) hK))
    intro kf43 u43 hq hR hne
    replace Q1 := Q1.mo hq
    replace Q2 := Q2.mo hq
    replace M := M.trans hq
    clear hq hR hne
    refine wl_bs 56 1 [(0, (.tmp 48))] [(0, .int .i64 (cmpD y1.b (saysD y0 y1.a).d))] #[.int .i64 (cmpD y1.b (saysD y0 y1.a).d)] 3 rfl rfl (fun _ => by kernel_rfl) rfl ?_
    intro k3 u44 hk hz hq Q3
    have ne_k1_k3 : k1 ≠ k3 := by have := Q1.lt; omega
    have ne_k2_k3 : (kf41 16) ≠ k3 := by have := Q2.lt; omega
    have N_k3 : wl40.heap.size ≤ k3 := by have := M.size; omega
    replace Q1 := Q1.mo hq
    replace Q2 := Q2.mo hq
    replace M := M.trans hq
    clear hk hz hq
    replace hown := own_mo hown M
    have hal : ((jcL x.st).take i).length = i := by rw [List.length_take, jcL_len]; omega
    refine wl_app Try.underlying56 inf3 rfl (by decide) (.tmp 40) (.tmp 49) N9 (.slice pa5 ((jcL x.st).take i).length cap5) ((jcL x.st).take i).length (((jcL x.st).take i).flatMap ic) k3 1 1 [.int .i64 (cmpD y1.b (saysD y0 y1.a).d)] rfl rfl rfl hown rfl Q3 (fun u hu => by simp only [List.mem_cons, List.not_mem_nil, or_false] at hu; rw [hu]; rfl) (by decide) (by rw [hal]; unfold maxLen; omega) (by rw [hal]; omega) (by have := M.size; omega) rfl ?_
    intro v9 u45 hOw hm9 hbk
    have hlt9 := fun k e => own_lt hown (k := k) e
    have hb9 := fun k e => (own_lt hown0 (k := k) e).1
    replace MB := hm9.mo (MB.trans M) (fun k e => by have := (hlt9 k e).2; omega)
    replace Q1 := hm9.at Q1 (fun e => by have := (hlt9 _ e).2; omega)
    obtain ⟨pa6, cap6, rfl, _⟩ := own_form hOw
    replace hOw : u45.ownsRow N9 3 1 (.slice pa6 ((jcL x.st).take (i + 1)).length cap6) ((jcL x.st).take (i + 1)).length (((jcL x.st).take (i + 1)).flatMap ic) := by rw [take_next (jcL_at hy0 hy1)]; simpa [ic] using hOw
    rw [show ((jcL x.st).take i).length + 1 = ((jcL x.st).take (i + 1)).length by rw [take_next (jcL_at hy0 hy1)]; simp]
    refine wl_m (.tmp 50) (.slice pa6 ((jcL x.st).take (i + 1)).length cap6) ?_
    refine w_nil (xn_blk (xn_then (w_reg ?_)))
    refine wl_mv (.tmp 6) (.int .i64 ((i + 1 : Nat) : Int)) (fun _ => rfl) e40_i rfl ?_
    refine wl_b .add 3 (.tmp 19) (.const (.int .i64 (1))) (.int .i64 ((i + 1 : Nat) : Int)) (.int .i64 (1)) (.int .i64 ((i + 1 + 1 : Nat) : Int)) (add1r (k := i + 1) (by omega) _ _ _) ?_
    refine wl_m (.tmp 20) (.int .i64 ((i + 1 + 1 : Nat) : Int)) ?_
    refine w_nil ?_
    exact xn_loop (x.st.length - (i + 1)) (by omega) ⟨i + 1, rfl, by omega, e40_1, rfl, Q1, (fun k e => by have h8 := pt_inj (show pt (kf41 16) 0 = pt k 0 from e); have := Q2.lt; have := hm9.size; omega), (by have := hm9.size; have := M.size; omega), (ne_next hne hy0 hy1 hf30p), ⟨pa6, cap6, rfl, hOw⟩, MB⟩
   | false =>
    have hf30p := of_decide_eq_false hf30
    refine wl_b .neq 26 (.tmp 37) (.const (.int .i64 (0))) (.int .i64 ((saysD y0 y1.a).e)) (.int .i64 (0)) (.bool true) (ne34 hf30 _ _ _) ?_
    refine w_nil (xn_then (w_condT rfl (w_seq (w_reg ?_))))
    refine wl_m (.tmp 8) (.int .i64 ((saysD y0 y1.a).e)) ?_
    refine wl_m (.const (.slice none 0 0)) (.slice none 0 0) ?_
    refine wl_m (.tmp 39) (.int .i64 ((saysD y0 y1.a).e)) ?_
    refine w_nil (xn_then (w_ret (xr_then (xr_blk (xr_then (xr_then (xr_blk (xr_then ?_))))))))
    exact w_ret2 _ _ (.slice none 0 0) (.int .i64 ((saysD y0 y1.a).e)) rfl rfl rfl ⟨none, 0, by rw [show rsE x.st = (saysD y0 y1.a).e by unfold rsE; rw [if_pos hf0p, jE_at hy0 hy1 hne hf30p], if_neg hf30p]; rfl, by rw [show rsE x.st = (saysD y0 y1.a).e by unfold rsE; rw [if_pos hf0p, jE_at hy0 hy1 hne hf30p], if_neg hf30p]; exact ⟨Nat.zero_le _, fun _ _ e => by cases e⟩, MB.trans M⟩
  ·skip
   have hid : decide (i + 1 < x.st.length) = false := decide_eq_false hil
   have htk : ((jcL x.st).take i) = jcL x.st := List.take_of_length_le (by rw [jcL_len]; omega)
   refine w_seq (w_seq (w_reg ?_))
   refine wl_mv (.tmp 6) (.int .i64 ((i + 1 : Nat) : Int)) (fun _ => rfl) e40_i rfl ?_
   refine wl_un (fun v => Instr.fieldAt 24 v 1) (.tmp 1) (pt k1 0) (pt k1 1) (fun _ => rfl) e40_1 (by kernel_rfl) rfl ?_
   refine wl_l 22 (.tmp 15) (pt k1 1) (.slice x.pa x.st.length x.cap) (run_one Q1 22 1 rfl Try.underlying22 rfl) ?_
   refine wl_val (.int .i64 ((x.st.length : Nat) : Int)) (len22 _ _ _ _ _ (by exact rfl) _ _ _ _ _ _) rfl ?_
   refine wl_b .lss 3 (.tmp 14) (.tmp 17) (.int .i64 ((i + 1 : Nat) : Int)) (.int .i64 ((x.st.length : Nat) : Int)) (.bool false) (ltN hid _ _ _) ?_
   refine w_nil (xn_then (w_condF rfl (w_exit (xx_then (xx_then (xx_blk (xn_then (w_seq (w_reg ?_)))))))))
   refine wl_mv (.tmp 5) (.slice pa5 ((jcL x.st).take i).length cap5) (fun _ => rfl) e5 rfl ?_
   refine wl_m (.tmp 51) (.slice pa5 ((jcL x.st).take i).length cap5) ?_
   refine wl_m (.const (.int .i64 (0))) (.int .i64 (0)) ?_
   refine w_nil (xn_then (w_ret ?_))
   exact w_ret2 _ _ (.slice pa5 ((jcL x.st).take i).length cap5) (.int .i64 (0)) rfl rfl rfl ⟨pa5, cap5, by rw [show rsE x.st = 0 by unfold rsE; rw [if_pos hf0p]; exact ne_end hne (by omega), if_pos rfl, htk], by rw [show rsE x.st = 0 by unfold rsE; rw [if_pos hf0p]; exact ne_end hne (by omega), if_pos rfl]; have h9 := hown; rw [htk] at h9; exact own_sl (cells := ic) (L := jcL x.st) (fun _ => rfl) (by rw [jcL_len]; unfold maxLen; omega) h9, M⟩
 | false =>
  have hf0p := of_decide_eq_false hf0
  refine wl_b .neq 26 (.tmp 11) (.const (.int .i64 (0))) (.int .i64 (chkT x.st)) (.int .i64 (0)) (.bool true) (ne34 hf0 _ _ _) ?_
  refine w_nil (xn_then (w_condT rfl (w_seq (w_reg ?_))))
  refine wl_m (.tmp 4) (.int .i64 (chkT x.st)) ?_
  refine wl_m (.const (.slice none 0 0)) (.slice none 0 0) ?_
  refine wl_m (.tmp 13) (.int .i64 (chkT x.st)) ?_
  refine w_nil (xn_then (w_ret (xr_then ?_)))
  exact w_ret2 _ _ (.slice none 0 0) (.int .i64 (chkT x.st)) rfl rfl rfl ⟨none, 0, by rw [show rsE x.st = chkT x.st by unfold rsE; rw [if_neg hf0p], if_neg hf0p]; rfl, by rw [show rsE x.st = chkT x.st by unfold rsE; rw [if_neg hf0p], if_neg hf0p]; exact ⟨Nat.zero_le _, fun _ _ e => by cases e⟩, M⟩
end Go.Proofs.Ythehmmhnacomkaa
namespace Go.Proofs.Ythehmmhnacomkaa
open Go.RowKit D
def cont (l : List Int) (v : Int) : Bool := l.any (fun x => decide (v = x))
theorem cont_t {l : List Int} {v a : Int} {i : Nat} (h : l[i]? = some a) (e : v = a) : cont l v = true := by
 unfold cont; rw [List.any_eq_true]; exact ⟨a, List.mem_of_getElem? h, by simp [e]⟩
theorem cont_f {l : List Int} {v : Int} (h : ∀ j < l.length, ∀ a, l[j]? = some a → ¬ v = a) : cont l v = false := by
 unfold cont; rw [List.any_eq_false]
 intro a ha
 obtain ⟨j, hj⟩ := List.getElem?_of_mem ha
 simp [h j (lt_of_get hj) a hj]
theorem no_next {α : Type} {l : List α} {p : α → Prop} {a : α} {i : Nat} (h : ∀ j < i, ∀ a, l[j]? = some a → p a) (ha : l[i]? = some a) (hv : p a) : ∀ j < i + 1, ∀ a, l[j]? = some a → p a := by
 intro j hj b hb
 by_cases e : j = i
 ·subst e; rw [ha] at hb; cases hb; exact hv
 ·exact h j (by omega) b hb
theorem index_n {L9 : List Int} {pa : Option Addr} {ca : Nat} (w : World) (v : Int) (hL : SI w pa L9) : Calls Try.prog 58 #[.slice pa L9.length ca, .int .i64 v] w fun e9 w' => ∃ r : Int, e9 = .returned (.int .i64 r) ∧ decide (0 ≤ r) = cont L9 v ∧ Mo w w' := by
 refine w_enter 19 Try.func58 Try.ntmps58 rfl rfl ?_
 have M : Mo w w := Mo.refl _
 refine w_seq (w_reg ?_)
 refine wl_m (.const (.int .i64 (0))) (.int .i64 (0)) ?_
 refine w_nil (xn_then (w_seq (w_seq (w_reg ?_))))
 refine wl_m (.tmp 0) (.slice pa L9.length ca) ?_
 refine wl_val (.int .i64 ((L9.length : Nat) : Int)) (len56 _ _ _ _ _ (by exact rfl) _ _ _ _ _ _) rfl ?_
 refine wl_m (.const (.int .i64 (0))) (.int .i64 (0)) ?_
 refine w_nil (xn_then (w_block ?_))
 have hz9 := hL.1
 unfold maxLen at hz9
 refine w_loop (fun m l w1 => ∃ i : Nat, m = L9.length - i ∧ i ≤ L9.length ∧ look l 0 = .slice pa L9.length ca ∧ look l 1 = .int .i64 (v) ∧ look l 6 = .slice pa L9.length ca ∧ look l 7 = .int .i64 ((L9.length : Nat) : Int) ∧ look l 8 = .int .i64 ((i : Nat) : Int) ∧ (∀ j < i, ∀ a, L9[j]? = some a → ¬ v = a) ∧ Mo w w1) _ ⟨0, rfl, Nat.zero_le _, rfl, rfl, rfl, rfl, rfl, (fun j hj => absurd hj (Nat.not_lt_zero j)), M⟩ ?_
 clear M
 rintro m l40 wl40 ⟨i, rfl, hi, e40_0, e40_1, e40_6, e40_7, e40_i, hno, M⟩
 by_cases hil : i < L9.length
 ·skip
  have hid : decide (i < L9.length) = true := decide_eq_true hil
  obtain ⟨a, ha⟩ := get_of_lt hil
  obtain ⟨bp, op, hpp, hRp⟩ := D.SL.rw hL ha
  refine w_seq (w_reg ?_)
  refine wl_bin (fun x y => do eqGuard .lss 3 (.tmp 8) (.tmp 7) x y; binOp .lss 3 x y) (.tmp 8) (.tmp 7) (.int .i64 ((i : Nat) : Int)) (.int .i64 ((L9.length : Nat) : Int)) (.bool true) (fun _ => rfl) e40_i e40_7 (ltN hid _ _ _) rfl ?_
  refine w_nil (xn_then (w_seq (w_condT rfl (w_skip (xn_then (w_seq (w_block (w_seq (w_reg ?_)))))))))
  refine wl_mv (.tmp 8) (.int .i64 ((i : Nat) : Int)) (fun _ => rfl) e40_i rfl ?_
  refine wl_m (.tmp 10) (.int .i64 ((i : Nat) : Int)) ?_
  refine w_nil (xn_then (w_seq (w_reg ?_)))
  refine wl_mv (.tmp 1) (.int .i64 (v)) (fun _ => rfl) e40_1 rfl ?_
  refine wl_mv (.tmp 0) (.slice pa L9.length ca) (fun _ => rfl) e40_0 rfl ?_
  refine wl_m (.tmp 5) (.int .i64 ((i : Nat) : Int)) ?_
  refine wl_bin (fun x y => Instr.indexAt 56 x y) (.tmp 12) (.tmp 13) (.slice pa L9.length ca) (.int .i64 ((i : Nat) : Int)) (pt bp (op + i * 1)) (fun _ => rfl) rfl rfl (ix56 (i := i) hpp hil _) rfl ?_
  refine wl_l 3 (.tmp 14) (pt bp (op + i * 1)) (.int .i64 (a)) (D.run_oneR (hRp.mo M).at' 3 0 rfl Try.underlying3 rfl) ?_
  cases hf30 : decide (v = a) with
  | true =>
   have hf30p := of_decide_eq_true hf30
   refine wl_b .eql 3 (.tmp 11) (.tmp 15) (.int .i64 (v)) (.int .i64 (a)) (.bool true) (eq3 hf30 _ _ _) ?_
   refine w_nil (xn_then (w_condT rfl (w_seq (w_reg ?_))))
   refine wl_m (.tmp 5) (.int .i64 ((i : Nat) : Int)) ?_
   refine wl_m (.tmp 17) (.int .i64 ((i : Nat) : Int)) ?_
   refine w_nil (xn_then (w_ret (xr_blk (xr_then (xr_then (xr_blk (xr_then ?_)))))))
   exact w_ret1 _ (.int .i64 ((i : Nat) : Int)) rfl rfl ⟨_, rfl, by rw [cont_t ha hf30p]; simp, M⟩
  | false =>
   have hf30p := of_decide_eq_false hf30
   refine wl_b .eql 3 (.tmp 11) (.tmp 15) (.int .i64 (v)) (.int .i64 (a)) (.bool false) (eq3 hf30 _ _ _) ?_
   refine w_nil (xn_then (w_condF rfl (w_skip (xn_blk (xn_then (w_reg ?_))))))
   refine wl_bin (fun x y => do eqGuard .add 3 (.tmp 8) (.const (.int .i64 (1))) x y; binOp .add 3 x y) (.tmp 8) (.const (.int .i64 (1))) (.int .i64 ((i : Nat) : Int)) (.int .i64 (1)) (.int .i64 ((i + 1 : Nat) : Int)) (fun _ => rfl) e40_i rfl (add1r (k := i) (by omega) _ _ _) rfl ?_
   refine wl_m (.tmp 18) (.int .i64 ((i + 1 : Nat) : Int)) ?_
   refine w_nil ?_
   exact xn_loop (L9.length - (i + 1)) (by omega) ⟨i + 1, rfl, by omega, e40_0, e40_1, e40_6, e40_7, rfl, (no_next hno ha hf30p), M⟩
 ·skip
  have hid : decide (i < L9.length) = false := decide_eq_false hil
  have hie : i = L9.length := by omega
  refine w_seq (w_reg ?_)
  refine wl_bin (fun x y => do eqGuard .lss 3 (.tmp 8) (.tmp 7) x y; binOp .lss 3 x y) (.tmp 8) (.tmp 7) (.int .i64 ((i : Nat) : Int)) (.int .i64 ((L9.length : Nat) : Int)) (.bool false) (fun _ => rfl) e40_i e40_7 (ltN hid _ _ _) rfl ?_
  refine w_nil (xn_then (w_seq (w_condF rfl (w_exit (xx_then (xx_then (xx_blk (xn_then (w_seq (w_reg ?_))))))))))
  refine wl_m (.const (.int .i64 (-1))) (.int .i64 (-1)) ?_
  refine w_nil (xn_then (w_ret ?_))
  exact w_ret1 _ (.int .i64 (-1)) rfl rfl ⟨_, rfl, by rw [cont_f (by rw [← hie]; exact hno)]; decide, M⟩
theorem cont_n {L9 : List Int} {pa : Option Addr} {ca : Nat} (w : World) (v : Int) (hL : SI w pa L9) : Calls Try.prog 36 #[.slice pa L9.length ca, .int .i64 v] w fun e9 w' => e9 = .returned (.bool (cont L9 v)) ∧ Mo w w' := by
 refine w_enter 9 Try.func36 Try.ntmps36 rfl rfl ?_
 have M : Mo w w := Mo.refl _
 refine w_seq (w_reg ?_)
 refine wl_m (.const (.bool false)) (.bool false) ?_
 refine w_nil (xn_then (w_seq (w_reg ?_)))
 refine wl_m (.tmp 0) (.slice pa L9.length ca) ?_
 refine wl_m (.tmp 1) (.int .i64 (v)) ?_
 refine wl_callx 58 [(.tmp 5), (.tmp 6)] _ [.slice pa L9.length ca, .int .i64 (v)] rfl rfl (fun _ _ => by kernel_rfl) (index_n _ v hL) rfl ?_
 rintro e9 u1 ⟨r, rfl, hr, hq⟩
 refine ⟨_, rfl, ?_⟩
 replace M := M.trans hq
 clear hq
 cases hf0 : decide (0 ≤ r) with
 | true =>
  have hf0p := of_decide_eq_true hf0
  refine wl_b .geq 3 (.tmp 7) (.const (.int .i64 (0))) (.int .i64 (r)) (.int .i64 (0)) (.bool true) (ge3 hf0 _ _ _) ?_
  refine wl_m (.tmp 8) (.bool true) ?_
  refine w_nil (xn_then (w_ret ?_))
  exact w_ret1 _ (.bool true) rfl rfl ⟨congrArg (fun v => Ending.returned (.bool v)) (hf0.symm.trans hr), M⟩
 | false =>
  have hf0p := of_decide_eq_false hf0
  refine wl_b .geq 3 (.tmp 7) (.const (.int .i64 (0))) (.int .i64 (r)) (.int .i64 (0)) (.bool false) (ge3 hf0 _ _ _) ?_
  refine wl_m (.tmp 8) (.bool false) ?_
  refine w_nil (xn_then (w_ret ?_))
  exact w_ret1 _ (.bool false) rfl rfl ⟨congrArg (fun v => Ending.returned (.bool v)) (hf0.symm.trans hr), M⟩
def upB (ris : Bool) (n : Int) : Bool := !decide (n < 0) && (ris || !decide (0 < n))
def rsB (ris : Bool) (L : List Stp) : Bool := if rsE L = 0 then ((jcL L).all (upB ris) && L.all (fun s => !(ris && fl s))) else false
theorem all_up {l : List Int} (h : ∀ n ∈ l, n = -1 ∨ n = 0 ∨ n = 1) : l.all (upB true) = !cont l (-1) ∧ l.all (upB false) = (!cont l (-1) && !cont l 1) := by
 induction l with
 | nil => exact ⟨rfl, rfl⟩
 | cons n l ih =>
  obtain ⟨i1, i2⟩ := ih (fun m hm => h m (List.mem_cons_of_mem _ hm))
  unfold cont at i1 i2 ⊢
  simp only [List.all_cons, List.any_cons, i1, i2]
  rcases h n List.mem_cons_self with rfl | rfl | rfl <;> simp [upB]
theorem rs_f {L : List Stp} (h : rsE L = 0) : rsB false L = (!cont (jcL L) (-1) && !cont (jcL L) 1) := by
 unfold rsB
 rw [if_pos h, (all_up (fun n hn => jcL_or hn)).2]
 simp
theorem rs_no {L : List Stp} {ris : Bool} (h : ¬ rsE L = 0) : rsB ris L = false := by unfold rsB; rw [if_neg h]
theorem rs_ret {a b : Bool} {c d : Int} (h1 : a = b) (h2 : c = d) : Ending.returned (.tuple #[.bool a, .int .i64 c]) = .returned (.tuple #[.bool b, .int .i64 d]) := by rw [h1, h2]
theorem pjoi_n {x : Tb} (w : World) (hT : LT w x) : Calls Try.prog 21 #[.agg (x.cells).toArray] w fun e9 w' => e9 = .returned (.tuple #[.bool (rsB false x.st), .int .i64 (rsE x.st)]) ∧ Mo w w' := by
 refine w_enter 22 Try.func21 Try.ntmps21 rfl rfl ?_
 have M : Mo w w := Mo.refl _
 refine w_seq (w_reg ?_)
 refine wl_box 24 (.tmp 0) _ (((x.cells).toArray)) rfl rfl (fun _ => by kernel_rfl) rfl ?_
 intro k1 u1 hk hz hq Q1
 have N_k1 : w.heap.size ≤ k1 := by have := M.size; omega
 replace M := M.trans hq
 clear hk hz hq
 refine wl_m (.const (.bool false)) (.bool false) ?_
 refine wl_m (.const (.int .i64 (0))) (.int .i64 (0)) ?_
 refine w_nil (xn_then (w_seq (w_reg ?_)))
 refine wl_l 24 (.tmp 1) (pt k1 0) (.agg (x.cells).toArray) (run_row Q1 24 0 2 (x.cells) rfl Try.underlying24 rfl szT24) ?_
 refine wl_callx 35 [(.tmp 7)] _ [.agg (x.cells).toArray] rfl rfl (fun _ _ => by kernel_rfl) (jumps_n _ (hT.mo M)) rfl ?_
 rintro e9 u2 ⟨pj, cj, rfl, hL, hq⟩
 refine ⟨_, rfl, ?_⟩
 replace Q1 := Q1.mo hq
 replace M := M.trans hq
 clear hq
 refine wl_m (.tmp 8) (.tuple #[.slice pj (if rsE x.st = 0 then jcL x.st else []).length cj, .int .i64 (rsE x.st)]) ?_
 refine wl_un (fun v => Instr.extract v 0) (.tmp 6) (.tuple #[.slice pj (if rsE x.st = 0 then jcL x.st else []).length cj, .int .i64 (rsE x.st)]) (.slice pj (if rsE x.st = 0 then jcL x.st else []).length cj) (fun _ => rfl) rfl (by kernel_rfl) rfl ?_
 refine wl_un (fun v => Instr.extract v 1) (.tmp 6) (.tuple #[.slice pj (if rsE x.st = 0 then jcL x.st else []).length cj, .int .i64 (rsE x.st)]) (.int .i64 (rsE x.st)) (fun _ => rfl) rfl (by kernel_rfl) rfl ?_
 refine wl_m (.tmp 9) (.slice pj (if rsE x.st = 0 then jcL x.st else []).length cj) ?_
 refine wl_m (.tmp 10) (.int .i64 (rsE x.st)) ?_
 refine w_nil (xn_then (w_seq (w_seq (w_reg ?_))))
 refine wl_m (.tmp 5) (.int .i64 (rsE x.st)) ?_
 cases hf0 : decide (rsE x.st = 0) with
 | true =>
  have hf0p := of_decide_eq_true hf0
  refine wl_b .neq 26 (.tmp 11) (.const (.int .i64 (0))) (.int .i64 (rsE x.st)) (.int .i64 (0)) (.bool false) (ne34 hf0 _ _ _) ?_
  refine w_nil (xn_then (w_condF rfl (w_skip (xn_then (w_seq (w_reg ?_))))))
  refine wl_m (.tmp 4) (.slice pj (if rsE x.st = 0 then jcL x.st else []).length cj) ?_
  cases hf1 : cont (if rsE x.st = 0 then jcL x.st else []) (-1) with
  | true =>
   refine wl_call 36 [(.tmp 14), (.const (.int .i64 (-1)))] _ [.slice pj (if rsE x.st = 0 then jcL x.st else []).length cj, .int .i64 (-1)] (.bool true) rfl rfl (fun _ _ => by kernel_rfl) (cB hf1 (cont_n _ (-1) hL)) rfl ?_
   intro u3 hq
   replace Q1 := Q1.mo hq
   replace hL := hL.kp hq.kp
   replace M := M.trans hq
   clear hq
   refine wl_un (fun v => Op.unary .not v) (.tmp 15) (.bool true) (.bool false) (fun _ => rfl) rfl (by kernel_rfl) rfl ?_
   refine wl_m (.tmp 16) (.bool false) ?_
   refine wl_skip rfl (wl_skip rfl (wl_skip rfl ?_))
   refine wl_pick (.tmp 17) (.tmp 20) (.const (.bool false)) false (.bool false) (fun _ => rfl) rfl rfl rfl ?_
   refine wl_m (.tmp 21) (.bool false) ?_
   refine wl_m (.const (.int .i64 (0))) (.int .i64 (0)) ?_
   refine w_nil (xn_then (w_ret ?_))
   exact w_ret2 _ _ (.bool false) (.int .i64 (0)) rfl rfl rfl ⟨rs_ret (by rw [rs_f hf0p, (show cont (jcL x.st) (-1) = true from by have h9 := hf1; rw [if_pos hf0p] at h9; exact h9)]; rfl) hf0p.symm, M⟩
  | false =>
   refine wl_call 36 [(.tmp 14), (.const (.int .i64 (-1)))] _ [.slice pj (if rsE x.st = 0 then jcL x.st else []).length cj, .int .i64 (-1)] (.bool false) rfl rfl (fun _ _ => by kernel_rfl) (cB hf1 (cont_n _ (-1) hL)) rfl ?_
   intro u3 hq
   replace Q1 := Q1.mo hq
   replace hL := hL.kp hq.kp
   replace M := M.trans hq
   clear hq
   refine wl_un (fun v => Op.unary .not v) (.tmp 15) (.bool false) (.bool true) (fun _ => rfl) rfl (by kernel_rfl) rfl ?_
   refine wl_m (.tmp 16) (.bool true) ?_
   refine wl_m (.tmp 4) (.slice pj (if rsE x.st = 0 then jcL x.st else []).length cj) ?_
   cases hf2 : cont (if rsE x.st = 0 then jcL x.st else []) (1) with
   | true =>
    refine wl_call 36 [(.tmp 18), (.const (.int .i64 (1)))] _ [.slice pj (if rsE x.st = 0 then jcL x.st else []).length cj, .int .i64 (1)] (.bool true) rfl rfl (fun _ _ => by kernel_rfl) (cB hf2 (cont_n _ (1) hL)) rfl ?_
    intro u4 hq
    replace Q1 := Q1.mo hq
    replace hL := hL.kp hq.kp
    replace M := M.trans hq
    clear hq
    refine wl_un (fun v => Op.unary .not v) (.tmp 19) (.bool true) (.bool false) (fun _ => rfl) rfl (by kernel_rfl) rfl ?_
    refine wl_pick (.tmp 17) (.tmp 20) (.const (.bool false)) true (.bool false) (fun _ => rfl) rfl rfl rfl ?_
    refine wl_m (.tmp 21) (.bool false) ?_
    refine wl_m (.const (.int .i64 (0))) (.int .i64 (0)) ?_
    refine w_nil (xn_then (w_ret ?_))
    exact w_ret2 _ _ (.bool false) (.int .i64 (0)) rfl rfl rfl ⟨rs_ret (by rw [rs_f hf0p, (show cont (jcL x.st) (-1) = false from by have h9 := hf1; rw [if_pos hf0p] at h9; exact h9), (show cont (jcL x.st) (1) = true from by have h9 := hf2; rw [if_pos hf0p] at h9; exact h9)]; rfl) hf0p.symm, M⟩
   | false =>
    refine wl_call 36 [(.tmp 18), (.const (.int .i64 (1)))] _ [.slice pj (if rsE x.st = 0 then jcL x.st else []).length cj, .int .i64 (1)] (.bool false) rfl rfl (fun _ _ => by kernel_rfl) (cB hf2 (cont_n _ (1) hL)) rfl ?_
    intro u4 hq
    replace Q1 := Q1.mo hq
    replace hL := hL.kp hq.kp
    replace M := M.trans hq
    clear hq
    refine wl_un (fun v => Op.unary .not v) (.tmp 19) (.bool false) (.bool true) (fun _ => rfl) rfl (by kernel_rfl) rfl ?_
    refine wl_pick (.tmp 17) (.tmp 20) (.const (.bool false)) true (.bool true) (fun _ => rfl) rfl rfl rfl ?_
    refine wl_m (.tmp 21) (.bool true) ?_
    refine wl_m (.const (.int .i64 (0))) (.int .i64 (0)) ?_
    refine w_nil (xn_then (w_ret ?_))
    exact w_ret2 _ _ (.bool true) (.int .i64 (0)) rfl rfl rfl ⟨rs_ret (by rw [rs_f hf0p, (show cont (jcL x.st) (-1) = false from by have h9 := hf1; rw [if_pos hf0p] at h9; exact h9), (show cont (jcL x.st) (1) = false from by have h9 := hf2; rw [if_pos hf0p] at h9; exact h9)]; rfl) hf0p.symm, M⟩
 | false =>
  have hf0p := of_decide_eq_false hf0
  refine wl_b .neq 26 (.tmp 11) (.const (.int .i64 (0))) (.int .i64 (rsE x.st)) (.int .i64 (0)) (.bool true) (ne34 hf0 _ _ _) ?_
  refine w_nil (xn_then (w_condT rfl (w_seq (w_reg ?_))))
  refine wl_m (.tmp 5) (.int .i64 (rsE x.st)) ?_
  refine wl_m (.const (.bool false)) (.bool false) ?_
  refine wl_m (.tmp 13) (.int .i64 (rsE x.st)) ?_
  refine w_nil (xn_then (w_ret (xr_then ?_)))
  exact w_ret2 _ _ (.bool false) (.int .i64 (rsE x.st)) rfl rfl rfl ⟨rs_ret (rs_no hf0p).symm rfl, M⟩
end Go.Proofs.Ythehmmhnacomkaa
namespace Go.Proofs.Ythehmmhnacomkaa
open Go.RowKit D
theorem sgn_ab (V : Int) : sgn (decide (V < 0)) (ab V) = V := by
 unfold sgn ab
 by_cases h : V < 0 <;> simp [h]
theorem fz_e {V S : Int} (h : (fzR V S).e = 0) : (fzR V S).d.z = V ∧ (fzR V S).d.s = S := by
 unfold fzR at h ⊢
 split
 ·exact ⟨sgn_ab V, rfl⟩
 next q => rw [if_neg q] at h; exact absurd h (by decide)
theorem q_max {x y : Dn} (hx : x.fit) (hy : y.fit) : addV x.z x.s y.z y.s * pw (18 - max x.s y.s) = x.q + y.q := by
 obtain ⟨a0, a1⟩ := hx.s
 obtain ⟨b0, b1⟩ := hy.s
 unfold addV Dn.q
 rw [Int.add_mul, Int.mul_assoc, Int.mul_assoc, pw_join (by omega) (by omega), pw_join (by omega) (by omega)]
theorem add_q {x y : Dn} (hx : x.fit) (hy : y.fit) (h : (addD x y).e = 0) : (addD x y).d.q = x.q + y.q := by
 obtain ⟨h1, h2⟩ := fz_e h
 have e : (addD x y).d.q = (addD x y).d.z * pw (18 - (addD x y).d.s) := rfl
 rw [e]
 unfold addD
 rw [h1, h2, q_max hx hy]
theorem ro_0 (b : Bool) (k : Nat) : ro b 0 k 2 = 0 := by
 unfold ro
 rw [Int.zero_ediv, Int.zero_emod]
 unfold aw
 simp
theorem says_a {s : Stp} (hs : s.fit) : ((saysD s s.a).e = 0 ∧ (saysD s s.a).d.q = s.b.q) ∨ (saysD s s.a).e = 7 := by
 have v0 : addV s.a.z s.a.s (-s.a.z) s.a.s = 0 := by unfold addV; rw [Int.neg_mul]; omega
 have e1 : subD s.a s.a = ⟨⟨false, 0, s.a.s⟩, 0⟩ := by
  unfold subD
  rw [v0, show max s.a.s s.a.s = s.a.s by omega]
  rfl
 have hr : ∀ b f S, rdV b 0 f S 2 = 0 := fun b f S => by unfold rdV; split <;> simp [ro_0]
 have e2 : mulD ⟨false, 0, s.a.s⟩ s.c = ⟨⟨false, 0, min (s.a.s + s.c.s) 18⟩, 0⟩ := by
  unfold mulD
  show fxR _ (rdV _ (0 * s.c.n) _ _ 2) _ = _
  rw [Int.zero_mul, hr]
  unfold fxR
  rw [if_pos (by decide)]
  simp
 obtain ⟨a0, a1⟩ := hs.1.s
 obtain ⟨c0, c1⟩ := hs.2.2.s
 have f2 : (⟨false, 0, min (s.a.s + s.c.s) 18⟩ : Dn).fit := by
  refine ⟨⟨Int.le_refl 0, by show (0 : Int) < MM; decide⟩, ?_⟩
  show ck false 0 (min (s.a.s + s.c.s) 18) = 0
  unfold ck sc
  simp
  omega
 have hq : (saysD s s.a) = addD ⟨false, 0, min (s.a.s + s.c.s) 18⟩ s.b := by
  unfold saysD
  rw [e1, if_pos rfl, e2, if_pos rfl]
 rw [hq]
 by_cases h : (addD ⟨false, 0, min (s.a.s + s.c.s) 18⟩ s.b).e = 0
 ·refine .inl ⟨h, ?_⟩
  rw [add_q f2 hs.2.1 h]
  show (0 : Int) * _ + s.b.q = s.b.q
  omega
 ·right
  unfold addD fzR at h ⊢
  split
  next q => rw [if_pos q] at h; exact absurd rfl h
  next => rfl
theorem at_from {L : List Stp} (hk : ∀ y ∈ L, y.ok) (hc : chkT L = 0) {i : Nat} {s : Stp} (hs : L[i]? = some s) : atD L s.a = saysD s s.a := by
 obtain ⟨_, _, ha, hasc⟩ := chk_0 hc
 have fs := fit_of hk ha hs
 have hl : lastP (rchd L s.a) L.length = some i := by
  refine lastP_some (lt_of_get hs) ?_ (fun j h1 h2 => ?_)
  ·rw [rchd_q hk ha fs.1 hs]; simp
  ·obtain ⟨u, hu⟩ := get_of_lt h2
   rw [rchd_q hk ha fs.1 hu]
   have := asc_lt hk ha hasc (j - i - 1) i hs (by rw [show i + (j - i - 1) + 1 = j by omega]; exact hu)
   simp; omega
 obtain ⟨e1, _⟩ := stp_c1 hc fs.1.2 hl
 obtain ⟨_, _, k, s', h1, h2, _, h4⟩ := stp_0 e1
 rw [hl] at h1
 cases h1
 rw [hs] at h2
 cases h2
 exact h4
theorem asc_take : ∀ {L : List Stp} (n : Nat), asc L = true → asc (L.take n) = true := fun {L} n h =>
 asc_of (fun i x y hx hy => by
  rw [List.getElem?_take] at hx hy
  split at hx
  ·split at hy
   ·exact asc_at h hx hy
   ·simp at hy
  ·simp at hx)
theorem chk_take {L : List Stp} (hc : chkT L = 0) {n : Nat} (h0 : 0 < n) (hn : n ≤ L.length) : chkT (L.take n) = 0 := by
 obtain ⟨h1, h2, h3, h4⟩ := chk_0 hc
 have hl : (L.take n).length = n := by rw [List.length_take]; omega
 refine chk_fine (by omega) (by omega) ?_ (asc_take n h4)
 rw [List.all_eq_true] at h3 ⊢
 exact fun y hy => h3 y (List.mem_of_mem_take hy)
theorem at_cut {L : List Stp} (hk : ∀ y ∈ L, y.ok) (hc : chkT L = 0) {i : Nat} {s u : Stp} (hs : L[i]? = some s) (hu : L[i + 1]? = some u) : atD (L.take (i + 1)) u.a = saysD s u.a := by
 obtain ⟨_, _, ha, hasc⟩ := chk_0 hc
 have fu := fit_of hk ha hu
 have hlt := lt_of_get hu
 have hl9 : (L.take (i + 1)).length = i + 1 := by rw [List.length_take]; omega
 have hc9 := chk_take hc (Nat.succ_pos i) (Nat.le_of_lt hlt)
 have hs9 : (L.take (i + 1))[i]? = some s := by rw [List.getElem?_take, if_pos (by omega)]; exact hs
 have hk9 : ∀ y ∈ L.take (i + 1), y.ok := fun y hy => hk y (List.mem_of_mem_take hy)
 have hl : lastP (rchd (L.take (i + 1)) u.a) (L.take (i + 1)).length = some i := by
  refine lastP_some (by omega) ?_ (fun j h1 h2 => by omega)
  rw [rchd_q hk9 (chk_0 hc9).2.2.1 fu.1 hs9]
  have := asc_lt hk ha hasc 0 i hs hu
  simp; omega
 obtain ⟨e1, _⟩ := stp_c1 hc9 fu.1.2 hl
 obtain ⟨_, _, k, s', h1, h2, _, h4⟩ := stp_0 e1
 rw [hl] at h1
 cases h1
 rw [hs9] at h2
 cases h2
 exact h4
theorem rs_0 {L : List Stp} (h : rsE L = 0) : chkT L = 0 ∧ jE L = 0 := by
 unfold rsE at h
 split at h
 next c => exact ⟨c, h⟩
 next c => exact absurd h c
end Go.Proofs.Ythehmmhnacomkaa
namespace Go.Proofs.Ythehmmhnacomkaa
open Go.RowKit D
theorem slh22 (ρ : Operand → Value) (x y : Operand) (p : Option Addr) (n c k : Nat) (hx : ρ x = .slice p n c) (hy : ρ y = .int .i64 (k : Int)) (hk : k ≤ c) (dst : Option Tmp) (type : TypeId) (pos : String) (after : Array Edge) (guard : Option (Nat × Bool)) (w : World) : (execOp ρ { dst, op := .slice 22 x none (some y) none, type, pos, after, guard }).run Try.prog w = .ok (.value (.slice p k c)) w := by
 simp [go_sem, hx, hy, hk]
theorem atf_n {x : Tb} {w : World} (hT : LT w x) (hc : chkT x.st = 0) {i : Nat} {y : Stp} (hy : x.st[i]? = some y) : Calls Try.prog 15 #[.agg (x.cells).toArray, y.a.v] w fun e9 w' => e9 = .returned (saysD y y.a).v ∧ Mo w w' := by
 have q := pat_n w hT (hT.ok y (List.mem_of_getElem? hy)).1
 rw [at_from hT.ok hc hy] at q
 exact q
theorem atc_n {x : Tb} {w : World} (hT : LT w x) (hc : chkT x.st = 0) {j i : Nat} {y0 y : Stp} (hj : j = i + 1) (he : (saysD y0 y.a).e = 0) (h0 : x.st[i]? = some y0) (hy : x.st[i + 1]? = some y) : Calls Try.prog 15 #[.agg #[.string ⟨#[]⟩, .slice x.pa j x.cap], y.a.v] w fun e9 w' => e9 = .returned (.tuple #[(saysD y0 y.a).d.v, .int .i64 0]) ∧ Mo w w' := by
 subst hj
 have q := pat_n w (hT.take (i + 1)) (hT.ok y (List.mem_of_getElem? hy)).1
 have hl : (x.st.take (i + 1)).length = i + 1 := by rw [List.length_take]; have := lt_of_get hy; omega
 rw [show (⟨⟨#[]⟩, x.pa, x.cap, x.st.take (i + 1)⟩ : Tb).st = x.st.take (i + 1) from rfl, at_cut hT.ok hc h0 hy] at q
 simp only [Tb.cells, hl] at q
 rw [show (saysD y0 y.a).v = .tuple #[(saysD y0 y.a).d.v, .int .i64 0] by show Value.tuple #[_, .int .i64 (saysD y0 y.a).e] = _; rw [he]] at q
 exact q
theorem cmp_a {L : List Stp} (hk : ∀ y ∈ L, y.ok) (hc : chkT L = 0) {i : Nat} {y : Stp} (hy : L[i]? = some y) (h7 : ¬ (saysD y y.a).e = 7) : (saysD y y.a).e = 0 ∧ (saysD y y.a).d.q = y.b.q := by
 rcases says_a (fit_of hk (chk_0 hc).2.2.1 hy) with h | h
 ·exact h
 ·exact absurd h h7
theorem cmp_j {L : List Stp} (hk : ∀ y ∈ L, y.ok) (he : rsE L = 0) (hb : (!rsB false L) = false) {i : Nat} {y0 y : Stp} (h0 : L[i]? = some y0) (hy : L[i + 1]? = some y) : (saysD y0 y.a).e = 0 ∧ (saysD y0 y.a).d.q = y.b.q := by
 obtain ⟨hc, hj⟩ := rs_0 he
 obtain ⟨_, _, ha, _⟩ := chk_0 hc
 have h1 := jE_no hj h0 hy
 refine ⟨h1, ?_⟩
 have hb' : rsB false L = true := by simpa using hb
 unfold rsB at hb'
 rw [if_pos he] at hb'
 simp only [Bool.and_eq_true, List.all_eq_true] at hb'
 have h2 := hb'.1 _ (List.mem_of_getElem? (jcL_at h0 hy))
 rw [cmp_q (fit_of hk ha hy).2.1 ((good_says (fit_of hk ha h0) (fit_of hk ha hy).1).fit h1)] at h2
 unfold upB at h2
 simp at h2
 unfold cm at h2
 split at h2
 ·simp at h2
 ·split at h2
  ·simp at h2
  ·omega
theorem cmp_eq0 {x y : Dn} (hx : x.fit) (hy : y.fit) (h : x.q = y.q) : cmpD x y = 0 := by rw [cmp_q hx hy]; exact cm_zero.2 h
theorem bases_n {x : Tb} (w : World) (hT : LT w x) : Calls Try.prog 7 #[.agg (x.cells).toArray] w fun e9 w' => e9 = .returned (.bool true) ∧ Mo w w' := by
 refine w_enter 82 Try.func7 Try.ntmps7 rfl rfl ?_
 have M : Mo w w := Mo.refl _
 refine w_seq (w_reg ?_)
 refine wl_box 24 (.tmp 0) _ (((x.cells).toArray)) rfl rfl (fun _ => by kernel_rfl) rfl ?_
 intro k1 u1 hk hz hq Q1
 have N_k1 : w.heap.size ≤ k1 := by have := M.size; omega
 replace M := M.trans hq
 clear hk hz hq
 refine wl_m (.const (.bool false)) (.bool false) ?_
 refine w_nil (xn_then (w_seq (w_seq (w_reg ?_))))
 refine wl_call 8 [] _ [] (.bool true) rfl rfl (fun _ _ => by kernel_rfl) (begun_n _) rfl ?_
 intro u2 hq
 replace Q1 := Q1.mo hq
 replace M := M.trans hq
 clear hq
 refine wl_un (fun v => Op.unary .not v) (.tmp 12) (.bool true) (.bool false) (fun _ => rfl) rfl (by kernel_rfl) rfl ?_
 refine wl_m (.tmp 13) (.bool false) ?_
 refine wl_l 24 (.tmp 1) (pt k1 0) (.agg (x.cells).toArray) (run_row Q1 24 0 2 (x.cells) rfl Try.underlying24 rfl szT24) ?_
 refine wl_call 10 [(.tmp 15)] _ [.agg (x.cells).toArray] (.int .i64 (chkT x.st)) rfl rfl (fun _ _ => by kernel_rfl) (qck_n _ (hT.mo M)) rfl ?_
 intro u3 hq
 replace Q1 := Q1.mo hq
 replace M := M.trans hq
 clear hq
 cases hf0 : decide (chkT x.st = 0) with
 | true =>
  have hf0p := of_decide_eq_true hf0
  refine wl_b .neq 26 (.tmp 16) (.const (.int .i64 (0))) (.int .i64 (chkT x.st)) (.int .i64 (0)) (.bool false) (ne34 hf0 _ _ _) ?_
  refine wl_pick (.tmp 14) (.const (.bool true)) (.tmp 17) false (.bool false) (fun _ => rfl) rfl rfl rfl ?_
  refine w_nil (xn_then (w_condF rfl (w_skip (xn_then (w_seq (w_reg ?_))))))
  refine wl_l 24 (.tmp 1) (pt k1 0) (.agg (x.cells).toArray) (run_row Q1 24 0 2 (x.cells) rfl Try.underlying24 rfl szT24) ?_
  refine wl_call 21 [(.tmp 21)] _ [.agg (x.cells).toArray] (.tuple #[.bool ((rsB false x.st)), .int .i64 (rsE x.st)]) rfl rfl (fun _ _ => by kernel_rfl) (pjoi_n _ (hT.mo M)) rfl ?_
  intro u4 hq
  replace Q1 := Q1.mo hq
  replace M := M.trans hq
  clear hq
  refine wl_m (.tmp 22) (.tuple #[.bool ((rsB false x.st)), .int .i64 (rsE x.st)]) ?_
  refine wl_un (fun v => Instr.extract v 0) (.tmp 20) (.tuple #[.bool ((rsB false x.st)), .int .i64 (rsE x.st)]) (.bool ((rsB false x.st))) (fun _ => rfl) rfl (by kernel_rfl) rfl ?_
  refine wl_un (fun v => Instr.extract v 1) (.tmp 20) (.tuple #[.bool ((rsB false x.st)), .int .i64 (rsE x.st)]) (.int .i64 (rsE x.st)) (fun _ => rfl) rfl (by kernel_rfl) rfl ?_
  refine wl_m (.tmp 23) (.bool ((rsB false x.st))) ?_
  refine wl_m (.tmp 24) (.int .i64 (rsE x.st)) ?_
  refine w_nil (xn_then (w_seq (w_seq (w_reg ?_))))
  refine wl_f 24 1 (.tmp 1) (pt k1 0) (pt k1 1) ?_
  refine wl_l 22 (.tmp 25) (pt k1 1) (.slice x.pa x.st.length x.cap) (run_one Q1 22 1 rfl Try.underlying22 rfl) ?_
  refine wl_val (.int .i64 ((x.st.length : Nat) : Int)) (len22 _ _ _ _ _ (by exact rfl) _ _ _ _ _ _) rfl ?_
  refine wl_m (.const (.int .i64 (0))) (.int .i64 (0)) ?_
  refine w_nil (xn_then (w_block ?_))
  have hz9 := hT.sl.1
  unfold maxLen at hz9
  refine w_loop (fun m l w1 => ∃ i : Nat, m = x.st.length - i ∧ i ≤ x.st.length ∧ look l 1 = pt k1 0 ∧ look l 3 = .bool ((rsB false x.st)) ∧ look l 4 = .int .i64 (rsE x.st) ∧ look l 26 = .slice x.pa x.st.length x.cap ∧ look l 27 = .int .i64 ((x.st.length : Nat) : Int) ∧ look l 28 = .int .i64 ((i : Nat) : Int) ∧ At w1 k1 (x.cells) ∧ Mo w w1) _ ⟨0, rfl, Nat.zero_le _, rfl, rfl, rfl, rfl, rfl, rfl, Q1, M⟩ ?_
  clear Q1 M
  rintro m l40 wl40 ⟨i, rfl, hi, e40_1, e40_3, e40_4, e40_26, e40_27, e40_i, Q1, M⟩
  by_cases hil : i < x.st.length
  ·skip
   have hid : decide (i < x.st.length) = true := decide_eq_true hil
   obtain ⟨y, hy⟩ := get_of_lt hil
   have hmy := List.mem_of_getElem? hy
   obtain ⟨bp, op, hpp, hRp⟩ := D.SL.rw hT.sl hy
   refine w_seq (w_reg ?_)
   refine wl_bin (fun x y => do eqGuard .lss 3 (.tmp 28) (.tmp 27) x y; binOp .lss 3 x y) (.tmp 28) (.tmp 27) (.int .i64 ((i : Nat) : Int)) (.int .i64 ((x.st.length : Nat) : Int)) (.bool true) (fun _ => rfl) e40_i e40_27 (ltN hid _ _ _) rfl ?_
   refine w_nil (xn_then (w_seq (w_condT rfl (w_skip (xn_then (w_seq (w_block (w_seq (w_reg ?_)))))))))
   refine wl_mv (.tmp 28) (.int .i64 ((i : Nat) : Int)) (fun _ => rfl) e40_i rfl ?_
   refine wl_bin (fun x y => Instr.indexAt 22 x y) (.tmp 26) (.tmp 28) (.slice x.pa x.st.length x.cap) (.int .i64 ((i : Nat) : Int)) (pt bp (op + i * 18)) (fun _ => rfl) e40_26 e40_i (ix22 (i := i) hpp hil _) rfl ?_
   refine wl_l 45 (.tmp 31) (pt bp (op + i * 18)) (.agg (y.cells).toArray) (D.run_partR (hRp.mo M).at' 45 0 18 (y.cells) rfl Try.underlying45 rfl sz45) ?_
   refine wl_alloc 45 #[.bool false, .int .u64 0, .int .u64 0, .int .u64 0, .int .u64 0, .int .i64 0, .bool false, .int .u64 0, .int .u64 0, .int .u64 0, .int .u64 0, .int .i64 0, .bool false, .int .u64 0, .int .u64 0, .int .u64 0, .int .u64 0, .int .i64 0] rfl (fun _ => by kernel_rfl) rfl ?_
   intro k2 u41 hk hz hq Q2
   have ne_k1_k2 : k1 ≠ k2 := by have := Q1.lt; omega
   have N_k2 : w.heap.size ≤ k2 := by have := M.size; omega
   replace Q1 := Q1.mo hq
   replace M := M.trans hq
   clear hk hz hq
   refine wl_m (.tmp 30) (.int .i64 ((i : Nat) : Int)) ?_
   refine wl_st 45 (.tmp 6) (.tmp 32) k2 0 ((y.cells).toArray) _ (y.cells) Q2 rfl rfl rfl rfl rfl sz45 rfl rfl rfl ?_
   intro u42 hS Qn
   replace Q2 := Qn
   clear Qn
   replace Q1 := hS.other _ _ ne_k1_k2 Q1
   replace M := hS.mo _ N_k2 M
   clear hS
   refine w_nil (xn_then (w_seq (w_reg ?_)))
   refine wl_load 24 (.tmp 1) (pt k1 0) (.agg (x.cells).toArray) rfl e40_1 (run_row Q1 24 0 2 (x.cells) rfl Try.underlying24 rfl szT24) rfl ?_
   refine wl_f 45 0 (.tmp 6) (pt k2 0) (pt k2 0) ?_
   refine wl_l 33 (.tmp 35) (pt k2 0) (.agg #[.bool y.a.b, .int .u64 (l0 y.a.n), .int .u64 (l1 y.a.n), .int .u64 (l2 y.a.n), .int .u64 (l3 y.a.n), .int .i64 y.a.s]) (run_row Q2 33 0 6 _ rfl Try.underlying33 rfl sz33) ?_
   refine wl_call 15 [(.tmp 34), (.tmp 36)] _ [.agg (x.cells).toArray, .agg #[.bool y.a.b, .int .u64 (l0 y.a.n), .int .u64 (l1 y.a.n), .int .u64 (l2 y.a.n), .int .u64 (l3 y.a.n), .int .i64 y.a.s]] (.tuple #[.agg ((saysD y y.a).d.cells).toArray, .int .i64 ((saysD y y.a).e)]) rfl rfl (fun _ _ => by kernel_rfl) (atf_n (hT.mo M) hf0p hy) rfl ?_
   intro u43 hq
   replace Q1 := Q1.mo hq
   replace Q2 := Q2.mo hq
   replace M := M.trans hq
   clear hq
   refine wl_m (.tmp 37) (.tuple #[.agg ((saysD y y.a).d.cells).toArray, .int .i64 ((saysD y y.a).e)]) ?_
   refine wl_un (fun v => Instr.extract v 0) (.tmp 33) (.tuple #[.agg ((saysD y y.a).d.cells).toArray, .int .i64 ((saysD y y.a).e)]) (.agg ((saysD y y.a).d.cells).toArray) (fun _ => rfl) rfl (by kernel_rfl) rfl ?_
   refine wl_un (fun v => Instr.extract v 1) (.tmp 33) (.tuple #[.agg ((saysD y y.a).d.cells).toArray, .int .i64 ((saysD y y.a).e)]) (.int .i64 ((saysD y y.a).e)) (fun _ => rfl) rfl (by kernel_rfl) rfl ?_
   refine wl_alloc 33 #[.bool false, .int .u64 0, .int .u64 0, .int .u64 0, .int .u64 0, .int .i64 0] rfl (fun _ => by kernel_rfl) rfl ?_
   intro k3 u44 hk hz hq Q3
   have ne_k1_k3 : k1 ≠ k3 := by have := Q1.lt; omega
   have ne_k2_k3 : k2 ≠ k3 := by have := Q2.lt; omega
   have N_k3 : w.heap.size ≤ k3 := by have := M.size; omega
   replace Q1 := Q1.mo hq
   replace Q2 := Q2.mo hq
   replace M := M.trans hq
   clear hk hz hq
   refine wl_st 33 (.tmp 7) (.tmp 38) k3 0 (((saysD y y.a).d.cells).toArray) _ ((saysD y y.a).d.cells) Q3 rfl rfl rfl rfl rfl sz33 rfl rfl rfl ?_
   intro u45 hS Qn
   replace Q3 := Qn
   clear Qn
   replace Q1 := hS.other _ _ ne_k1_k3 Q1
   replace Q2 := hS.other _ _ ne_k2_k3 Q2
   replace M := hS.mo _ N_k3 M
   clear hS
   refine wl_m (.tmp 39) (.int .i64 ((saysD y y.a).e)) ?_
   refine w_nil (xn_then (w_seq (w_seq (w_reg ?_))))
   refine wl_m (.tmp 8) (.int .i64 ((saysD y y.a).e)) ?_
   cases hf30 : decide ((saysD y y.a).e = 7) with
   | true =>
    have hf30p := of_decide_eq_true hf30
    refine wl_b .eql 26 (.tmp 40) (.const (.int .i64 (7))) (.int .i64 ((saysD y y.a).e)) (.int .i64 (7)) (.bool true) (eq34 hf30 _ _ _) ?_
    refine w_nil (xn_then (w_condT rfl (w_exit (xx_then (xx_blk (xn_then (w_reg ?_)))))))
    refine wl_bin (fun x y => do eqGuard .add 3 (.tmp 28) (.const (.int .i64 (1))) x y; binOp .add 3 x y) (.tmp 28) (.const (.int .i64 (1))) (.int .i64 ((i : Nat) : Int)) (.int .i64 (1)) (.int .i64 ((i + 1 : Nat) : Int)) (fun _ => rfl) e40_i rfl (add1r (k := i) (by omega) _ _ _) rfl ?_
    refine wl_m (.tmp 81) (.int .i64 ((i + 1 : Nat) : Int)) ?_
    refine w_nil ?_
    exact xn_loop (x.st.length - (i + 1)) (by omega) ⟨i + 1, rfl, by omega, e40_1, e40_3, e40_4, e40_26, e40_27, rfl, Q1, M⟩
   | false =>
    have hf30p := of_decide_eq_false hf30
    refine wl_b .eql 26 (.tmp 40) (.const (.int .i64 (7))) (.int .i64 ((saysD y y.a).e)) (.int .i64 (7)) (.bool false) (eq34 hf30 _ _ _) ?_
    refine w_nil (xn_then (w_condF rfl (w_skip (xn_then (w_seq (w_seq ?_))))))
    have ha9 := cmp_a hT.ok hf0p hy hf30p
    refine w_reg ?_
    refine wl_mv (.tmp 8) (.int .i64 (0)) (fun _ => rfl) (Eq.trans (show _ = Value.int .i64 (saysD y y.a).e from rfl) (congrArg (Value.int .i64) ha9.1)) rfl ?_
    refine wl_b .neq 26 (.tmp 42) (.const (.int .i64 (0))) (.int .i64 (0)) (.int .i64 (0)) (.bool false) (ne34 (r := true) rfl _ _ _) ?_
    refine wl_m (.tmp 43) (.bool false) ?_
    refine wl_l 33 (.tmp 7) (pt k3 0) (.agg ((saysD y y.a).d.cells).toArray) (run_row Q3 33 0 6 ((saysD y y.a).d.cells) rfl Try.underlying33 rfl sz33) ?_
    refine wl_f 45 1 (.tmp 6) (pt k2 0) (pt k2 6) ?_
    refine wl_l 33 (.tmp 46) (pt k2 6) (.agg #[.bool y.b.b, .int .u64 (l0 y.b.n), .int .u64 (l1 y.b.n), .int .u64 (l2 y.b.n), .int .u64 (l3 y.b.n), .int .i64 y.b.s]) (run_row Q2 33 6 6 _ rfl Try.underlying33 rfl sz33) ?_
    refine wl_call 24 [(.tmp 45), (.tmp 47)] _ [.agg ((saysD y y.a).d.cells).toArray, .agg #[.bool y.b.b, .int .u64 (l0 y.b.n), .int .u64 (l1 y.b.n), .int .u64 (l2 y.b.n), .int .u64 (l3 y.b.n), .int .i64 y.b.s]] (.int .i64 (0)) rfl rfl (fun _ _ => by kernel_rfl) (cR (congrArg (Value.int .i64) (cmp_eq0 ((good_says (fit_of hT.ok (chk_0 hf0p).2.2.1 hy) (fit_of hT.ok (chk_0 hf0p).2.2.1 hy).1).fit ha9.1) (fit_of hT.ok (chk_0 hf0p).2.2.1 hy).2.1 ha9.2)) (qcmp_n ((good_says (fit_of hT.ok (chk_0 hf0p).2.2.1 hy) (fit_of hT.ok (chk_0 hf0p).2.2.1 hy).1).fit ha9.1) (fit_of hT.ok (chk_0 hf0p).2.2.1 hy).2.1 _)) rfl ?_
    intro u46 hq
    replace Q1 := Q1.mo hq
    replace Q2 := Q2.mo hq
    replace Q3 := Q3.mo hq
    replace M := M.trans hq
    clear hq
    refine wl_b .neq 3 (.tmp 48) (.const (.int .i64 (0))) (.int .i64 (0)) (.int .i64 (0)) (.bool false) (ne3 (r := true) rfl _ _ _) ?_
    refine wl_pick (.tmp 44) (.const (.bool true)) (.tmp 49) false (.bool false) (fun _ => rfl) rfl rfl rfl ?_
    refine w_nil (xn_then (w_condF rfl (w_skip (xn_then (w_seq (w_seq (w_reg ?_)))))))
    refine wl_m (.tmp 5) (.int .i64 ((i : Nat) : Int)) ?_
    cases hf31 : decide (((i : Nat) : Int) = 0) with
    | true =>
     have hf31p := of_decide_eq_true hf31
     refine wl_b .eql 3 (.tmp 51) (.const (.int .i64 (0))) (.int .i64 ((i : Nat) : Int)) (.int .i64 (0)) (.bool true) (eq3 hf31 _ _ _) ?_
     refine wl_m (.tmp 52) (.bool true) ?_
     refine wl_skip rfl (wl_skip rfl ?_)
     refine wl_pick (.tmp 53) (.const (.bool true)) (.tmp 55) true (.bool true) (fun _ => rfl) rfl rfl rfl ?_
     refine wl_m (.tmp 56) (.bool true) ?_
     refine wl_skip rfl (wl_skip rfl ?_)
     refine wl_pick (.tmp 57) (.const (.bool true)) (.tmp 59) true (.bool true) (fun _ => rfl) rfl rfl rfl ?_
     refine w_nil (xn_then (w_condT rfl (w_exit (xx_then (xx_blk (xn_then (w_reg ?_)))))))
     refine wl_bin (fun x y => do eqGuard .add 3 (.tmp 28) (.const (.int .i64 (1))) x y; binOp .add 3 x y) (.tmp 28) (.const (.int .i64 (1))) (.int .i64 ((i : Nat) : Int)) (.int .i64 (1)) (.int .i64 ((i + 1 : Nat) : Int)) (fun _ => rfl) e40_i rfl (add1r (k := i) (by omega) _ _ _) rfl ?_
     refine wl_m (.tmp 81) (.int .i64 ((i + 1 : Nat) : Int)) ?_
     refine w_nil ?_
     exact xn_loop (x.st.length - (i + 1)) (by omega) ⟨i + 1, rfl, by omega, e40_1, e40_3, e40_4, e40_26, e40_27, rfl, Q1, M⟩
    | false =>
     have hf31p := of_decide_eq_false hf31
     refine wl_b .eql 3 (.tmp 51) (.const (.int .i64 (0))) (.int .i64 ((i : Nat) : Int)) (.int .i64 (0)) (.bool false) (eq3 hf31 _ _ _) ?_
     refine wl_m (.tmp 52) (.bool false) ?_
     refine wl_mv (.tmp 4) (.int .i64 (rsE x.st)) (fun _ => rfl) e40_4 rfl ?_
     cases hf32 : decide (rsE x.st = 0) with
     | true =>
      have hf32p := of_decide_eq_true hf32
      refine wl_b .neq 26 (.tmp 54) (.const (.int .i64 (0))) (.int .i64 (rsE x.st)) (.int .i64 (0)) (.bool false) (ne34 hf32 _ _ _) ?_
      refine wl_pick (.tmp 53) (.const (.bool true)) (.tmp 55) false (.bool false) (fun _ => rfl) rfl rfl rfl ?_
      refine wl_m (.tmp 56) (.bool false) ?_
      refine wl_mv (.tmp 3) (.bool ((rsB false x.st))) (fun _ => rfl) e40_3 rfl ?_
      refine wl_un (fun v => Op.unary .not v) (.tmp 58) (.bool ((rsB false x.st))) (.bool (!(rsB false x.st))) (fun _ => rfl) rfl (notb _ _) rfl ?_
      refine wl_pick (.tmp 57) (.const (.bool true)) (.tmp 59) false (.bool (!(rsB false x.st))) (fun _ => rfl) rfl rfl rfl ?_
      refine w_nil (xn_then ?_)
      cases hf33 : !(rsB false x.st) with
      | true =>
       refine w_condT rfl (w_exit (xx_then (xx_blk (xn_then (w_reg ?_)))))
       refine wl_bin (fun x y => do eqGuard .add 3 (.tmp 28) (.const (.int .i64 (1))) x y; binOp .add 3 x y) (.tmp 28) (.const (.int .i64 (1))) (.int .i64 ((i : Nat) : Int)) (.int .i64 (1)) (.int .i64 ((i + 1 : Nat) : Int)) (fun _ => rfl) e40_i rfl (add1r (k := i) (by omega) _ _ _) rfl ?_
       refine wl_m (.tmp 81) (.int .i64 ((i + 1 : Nat) : Int)) ?_
       refine w_nil ?_
       exact xn_loop (x.st.length - (i + 1)) (by omega) ⟨i + 1, rfl, by omega, e40_1, e40_3, e40_4, e40_26, e40_27, rfl, Q1, M⟩
      | false =>
       refine w_condF rfl (w_skip (xn_then (w_seq ?_)))
       obtain ⟨i0, hi0⟩ : ∃ i0, i = i0 + 1 := ⟨i - 1, by omega⟩
       have hil0 : i0 < x.st.length := by omega
       obtain ⟨y0, hy0⟩ := get_of_lt hil0
       have hyn := hy
       rw [hi0] at hyn
       have hj9 := cmp_j hT.ok hf32p hf33 hy0 hyn
       refine w_reg ?_
       refine wl_un (fun v => Instr.fieldAt 24 v 1) (.tmp 1) (pt k1 0) (pt k1 1) (fun _ => rfl) e40_1 (by kernel_rfl) rfl ?_
       refine wl_l 22 (.tmp 61) (pt k1 1) (.slice x.pa x.st.length x.cap) (run_one Q1 22 1 rfl Try.underlying22 rfl) ?_
       refine wl_m (.tmp 5) (.int .i64 ((i : Nat) : Int)) ?_
       refine wl_val (.slice x.pa i x.cap) (slh22 _ _ _ x.pa x.st.length x.cap i (by exact rfl) (by exact rfl) (by have := hT.cp; omega) _ _ _ _ _ _) rfl ?_
       refine wl_build 24 [(1, (.tmp 64))] [(1, .slice x.pa i x.cap)] (.agg #[.string ⟨#[]⟩, .slice x.pa i x.cap]) rfl rfl (by kernel_rfl) rfl ?_
       refine wl_alloc 24 #[.string ⟨#[]⟩, .slice none 0 0] rfl (fun _ => by kernel_rfl) rfl ?_
       intro k4 u47 hk hz hq Q4
       have ne_k1_k4 : k1 ≠ k4 := by have := Q1.lt; omega
       have ne_k2_k4 : k2 ≠ k4 := by have := Q2.lt; omega
       have ne_k3_k4 : k3 ≠ k4 := by have := Q3.lt; omega
       have N_k4 : w.heap.size ≤ k4 := by have := M.size; omega
       replace Q1 := Q1.mo hq
       replace Q2 := Q2.mo hq
       replace Q3 := Q3.mo hq
       replace M := M.trans hq
       clear hk hz hq
       refine wl_st 24 (.tmp 9) (.tmp 65) k4 0 #[.string ⟨#[]⟩, .slice x.pa i x.cap] _ [.string ⟨#[]⟩, .slice x.pa i x.cap] Q4 rfl rfl rfl rfl rfl szT24 rfl rfl rfl ?_
       intro u48 hS Qn
       replace Q4 := Qn
       clear Qn
       replace Q1 := hS.other _ _ ne_k1_k4 Q1
       replace Q2 := hS.other _ _ ne_k2_k4 Q2
       replace Q3 := hS.other _ _ ne_k3_k4 Q3
       replace M := hS.mo _ N_k4 M
       clear hS
       refine w_nil (xn_then (w_seq (w_reg ?_)))
       refine wl_l 24 (.tmp 9) (pt k4 0) (.agg #[.string ⟨#[]⟩, .slice x.pa i x.cap]) (run_row Q4 24 0 2 _ rfl Try.underlying24 rfl szT24) ?_
       refine wl_f 45 0 (.tmp 6) (pt k2 0) (pt k2 0) ?_
       refine wl_l 33 (.tmp 68) (pt k2 0) (.agg #[.bool y.a.b, .int .u64 (l0 y.a.n), .int .u64 (l1 y.a.n), .int .u64 (l2 y.a.n), .int .u64 (l3 y.a.n), .int .i64 y.a.s]) (run_row Q2 33 0 6 _ rfl Try.underlying33 rfl sz33) ?_
       refine wl_call 15 [(.tmp 67), (.tmp 69)] _ [.agg #[.string ⟨#[]⟩, .slice x.pa i x.cap], .agg #[.bool y.a.b, .int .u64 (l0 y.a.n), .int .u64 (l1 y.a.n), .int .u64 (l2 y.a.n), .int .u64 (l3 y.a.n), .int .i64 y.a.s]] (.tuple #[.agg ((saysD y0 y.a).d.cells).toArray, .int .i64 (0)]) rfl rfl (fun _ _ => by kernel_rfl) (atc_n (hT.mo M) hf0p hi0 hj9.1 hy0 hyn) rfl ?_
       intro u49 hq
       replace Q1 := Q1.mo hq
       replace Q2 := Q2.mo hq
       replace Q3 := Q3.mo hq
       replace Q4 := Q4.mo hq
       replace M := M.trans hq
       clear hq
       refine wl_m (.tmp 70) (.tuple #[.agg ((saysD y0 y.a).d.cells).toArray, .int .i64 (0)]) ?_
       refine wl_un (fun v => Instr.extract v 0) (.tmp 66) (.tuple #[.agg ((saysD y0 y.a).d.cells).toArray, .int .i64 (0)]) (.agg ((saysD y0 y.a).d.cells).toArray) (fun _ => rfl) rfl (by kernel_rfl) rfl ?_
       refine wl_un (fun v => Instr.extract v 1) (.tmp 66) (.tuple #[.agg ((saysD y0 y.a).d.cells).toArray, .int .i64 (0)]) (.int .i64 (0)) (fun _ => rfl) rfl (by kernel_rfl) rfl ?_
       refine wl_alloc 33 #[.bool false, .int .u64 0, .int .u64 0, .int .u64 0, .int .u64 0, .int .i64 0] rfl (fun _ => by kernel_rfl) rfl ?_
       intro k5 u50 hk hz hq Q5
       have ne_k1_k5 : k1 ≠ k5 := by have := Q1.lt; omega
       have ne_k2_k5 : k2 ≠ k5 := by have := Q2.lt; omega
       have ne_k3_k5 : k3 ≠ k5 := by have := Q3.lt; omega
       have ne_k4_k5 : k4 ≠ k5 := by have := Q4.lt; omega
       have N_k5 : w.heap.size ≤ k5 := by have := M.size; omega
       replace Q1 := Q1.mo hq
       replace Q2 := Q2.mo hq
       replace Q3 := Q3.mo hq
       replace Q4 := Q4.mo hq
       replace M := M.trans hq
       clear hk hz hq
       refine wl_st 33 (.tmp 10) (.tmp 71) k5 0 (((saysD y0 y.a).d.cells).toArray) _ ((saysD y0 y.a).d.cells) Q5 rfl rfl rfl rfl rfl sz33 rfl rfl rfl ?_
       intro u51 hS Qn
       replace Q5 := Qn
       clear Qn
       replace Q1 := hS.other _ _ ne_k1_k5 Q1
       replace Q2 := hS.other _ _ ne_k2_k5 Q2
       replace Q3 := hS.other _ _ ne_k3_k5 Q3
       replace Q4 := hS.other _ _ ne_k4_k5 Q4
       replace M := hS.mo _ N_k5 M
       clear hS
       refine wl_m (.tmp 72) (.int .i64 (0)) ?_
       refine w_nil (xn_then (w_seq (w_reg ?_)))
       refine wl_m (.tmp 11) (.int .i64 (0)) ?_
       refine wl_b .neq 26 (.tmp 73) (.const (.int .i64 (0))) (.int .i64 (0)) (.int .i64 (0)) (.bool false) (ne34 (r := true) rfl _ _ _) ?_
       refine wl_m (.tmp 74) (.bool false) ?_
       refine wl_l 33 (.tmp 10) (pt k5 0) (.agg ((saysD y0 y.a).d.cells).toArray) (run_row Q5 33 0 6 ((saysD y0 y.a).d.cells) rfl Try.underlying33 rfl sz33) ?_
       refine wl_l 33 (.tmp 7) (pt k3 0) (.agg ((saysD y y.a).d.cells).toArray) (run_row Q3 33 0 6 ((saysD y y.a).d.cells) rfl Try.underlying33 rfl sz33) ?_
       refine wl_call 24 [(.tmp 76), (.tmp 77)] _ [.agg ((saysD y0 y.a).d.cells).toArray, .agg ((saysD y y.a).d.cells).toArray] (.int .i64 (0)) rfl rfl (fun _ _ => by kernel_rfl) (cR (congrArg (Value.int .i64) (cmp_eq0 ((good_says (fit_of hT.ok (chk_0 hf0p).2.2.1 hy0) (fit_of hT.ok (chk_0 hf0p).2.2.1 hy).1).fit hj9.1) ((good_says (fit_of hT.ok (chk_0 hf0p).2.2.1 hy) (fit_of hT.ok (chk_0 hf0p).2.2.1 hy).1).fit ha9.1) (hj9.2.trans ha9.2.symm))) (qcmp_n ((good_says (fit_of hT.ok (chk_0 hf0p).2.2.1 hy0) (fit_of hT.ok (chk_0 hf0p).2.2.1 hy).1).fit hj9.1) ((good_says (fit_of hT.ok (chk_0 hf0p).2.2.1 hy) (fit_of hT.ok (chk_0 hf0p).2.2.1 hy).1).fit ha9.1) _)) rfl ?_
       intro u52 hq
       replace Q1 := Q1.mo hq
       replace Q2 := Q2.mo hq
       replace Q3 := Q3.mo hq
       replace Q4 := Q4.mo hq
       replace Q5 := Q5.mo hq
       replace M := M.trans hq
       clear hq
       refine wl_b .neq 3 (.tmp 78) (.const (.int .i64 (0))) (.int .i64 (0)) (.int .i64 (0)) (.bool false) (ne3 (r := true) rfl _ _ _) ?_
       refine wl_pick (.tmp 75) (.const (.bool true)) (.tmp 79) false (.bool false) (fun _ => rfl) rfl rfl rfl ?_
       refine w_nil (xn_then (w_condF rfl (w_skip (xn_blk (xn_then (w_reg ?_))))))
       refine wl_bin (fun x y => do eqGuard .add 3 (.tmp 28) (.const (.int .i64 (1))) x y; binOp .add 3 x y) (.tmp 28) (.const (.int .i64 (1))) (.int .i64 ((i : Nat) : Int)) (.int .i64 (1)) (.int .i64 ((i + 1 : Nat) : Int)) (fun _ => rfl) e40_i rfl (add1r (k := i) (by omega) _ _ _) rfl ?_
       refine wl_m (.tmp 81) (.int .i64 ((i + 1 : Nat) : Int)) ?_
       refine w_nil ?_
       exact xn_loop (x.st.length - (i + 1)) (by omega) ⟨i + 1, rfl, by omega, e40_1, e40_3, e40_4, e40_26, e40_27, rfl, Q1, M⟩
     | false =>
      have hf32p := of_decide_eq_false hf32
      refine wl_b .neq 26 (.tmp 54) (.const (.int .i64 (0))) (.int .i64 (rsE x.st)) (.int .i64 (0)) (.bool true) (ne34 hf32 _ _ _) ?_
      refine wl_pick (.tmp 53) (.const (.bool true)) (.tmp 55) false (.bool true) (fun _ => rfl) rfl rfl rfl ?_
      refine wl_m (.tmp 56) (.bool true) ?_
      refine wl_skip rfl (wl_skip rfl ?_)
      refine wl_pick (.tmp 57) (.const (.bool true)) (.tmp 59) true (.bool true) (fun _ => rfl) rfl rfl rfl ?_
      refine w_nil (xn_then (w_condT rfl (w_exit (xx_then (xx_blk (xn_then (w_reg ?_)))))))
      refine wl_bin (fun x y => do eqGuard .add 3 (.tmp 28) (.const (.int .i64 (1))) x y; binOp .add 3 x y) (.tmp 28) (.const (.int .i64 (1))) (.int .i64 ((i : Nat) : Int)) (.int .i64 (1)) (.int .i64 ((i + 1 : Nat) : Int)) (fun _ => rfl) e40_i rfl (add1r (k := i) (by omega) _ _ _) rfl ?_
      refine wl_m (.tmp 81) (.int .i64 ((i + 1 : Nat) : Int)) ?_
      refine w_nil ?_
      exact xn_loop (x.st.length - (i + 1)) (by omega) ⟨i + 1, rfl, by omega, e40_1, e40_3, e40_4, e40_26, e40_27, rfl, Q1, M⟩
  ·skip
   have hid : decide (i < x.st.length) = false := decide_eq_false hil
   have hie : i = x.st.length := by omega
   refine w_seq (w_reg ?_)
   refine wl_bin (fun x y => do eqGuard .lss 3 (.tmp 28) (.tmp 27) x y; binOp .lss 3 x y) (.tmp 28) (.tmp 27) (.int .i64 ((i : Nat) : Int)) (.int .i64 ((x.st.length : Nat) : Int)) (.bool false) (fun _ => rfl) e40_i e40_27 (ltN hid _ _ _) rfl ?_
   refine w_nil (xn_then (w_seq (w_condF rfl (w_exit (xx_then (xx_then (xx_blk (xn_then (w_seq (w_reg ?_))))))))))
   refine wl_m (.const (.bool true)) (.bool true) ?_
   refine w_nil (xn_then (w_ret ?_))
   exact w_ret1 _ _ rfl rfl ⟨rfl, M⟩
 | false =>
  have hf0p := of_decide_eq_false hf0
  refine wl_b .neq 26 (.tmp 16) (.const (.int .i64 (0))) (.int .i64 (chkT x.st)) (.int .i64 (0)) (.bool true) (ne34 hf0 _ _ _) ?_
  refine wl_pick (.tmp 14) (.const (.bool true)) (.tmp 17) false (.bool true) (fun _ => rfl) rfl rfl rfl ?_
  refine w_nil (xn_then (w_condT rfl (w_seq (w_reg ?_))))
  refine wl_call 8 [] _ [] (.bool true) rfl rfl (fun _ _ => by kernel_rfl) (begun_n _) rfl ?_
  intro u4 hq
  replace Q1 := Q1.mo hq
  replace M := M.trans hq
  clear hq
  refine wl_m (.tmp 19) (.bool true) ?_
  refine w_nil (xn_then (w_ret (xr_then ?_)))
  exact w_ret1 _ _ rfl rfl ⟨rfl, M⟩
end Go.Proofs.Ythehmmhnacomkaa

/-
  A part of the proof.
-/
import Derived.Test.YtnffhcjmpjajlaaDoorKa1
import Derived.RegionTactic
import Derived.Test.YtnffhcjmpjajlaaDoorProg
import Derived.WalkKit
import Derived.WalkSpells
import Derived.Handy
import Derived.BigQuiet
import Derived.Deep.RegionHeld3
import Derived.Deep.MidRow
import Derived.BigCall
import Derived.Test.YtnffhcjmpjajlaaDoorKa2
import Derived.Test.YtnffhcjmpjajlaaDoorKa3
import Derived.ChangeKeysEq
import Derived.Shelf.Small.Bits
import Derived.Shelf.Strconv.Itoa0
import Derived.Shelf.Bits.Mul64
import Derived.Deep.CutRange
import Derived.Deep.CutBlock
import Derived.ScopeJumps
import Derived.WalkMore
import Derived.Laws.StructEq
import Derived.Lib.CutLaws
import Derived.Maps.OwnSet
import Derived.WalkArith
import Derived.StringKeys
import Derived.Test.YtnffhcjmpjajlaaDoorKa4
import Derived.ProofKit
import Derived.OpenShut
import Derived.ChangeArms
import Derived.Deep.Slices
import Derived.ReadAgain
import Derived.WideKeyArgs
import Derived.Maps.AppendAt
import Derived.Test.YtnffhcjmpjajlaaDoorKa6
import Derived.Test.YtnffhcjmpjajlaaDoorKa5
import Derived.Test.YtnffhcjmpjajlaaDoorKa7
import Derived.Lib.IndexBytes
import Derived.Test.YtnffhcjmpjajlaaDoorKa8
import Derived.Test.YtnffhcjmpjajlaaDoorKa9
import Derived.Test.YtnffhcjmpjajlaaDoorKa15
import Derived.Test.YtnffhcjmpjajlaaDoorRows
import Derived.Shelf.Strconv.Itoa4
import Derived.Lib.AppendIntMem
import Derived.Carry
import Derived.ChangeMaps5
import Derived.ChangeSame
import Derived.ChangeVars
import Derived.JoinedOf
import Derived.RowKitTokens
import Derived.LaidLaws
import Derived.LaidHandle
import Derived.Stop.Joined
import Derived.Lib.LaidIn
import Derived.Lib.LaidTab
import Derived.SizedLaws
import Derived.Deep.Strs
import Derived.Test.YtnffhcjmpjajlaaDoorKa13
import Derived.Test.YtnffhcjmpjajlaaDoorKa11
import Derived.Test.YtnffhcjmpjajlaaDoorKa10
import Derived.Lib.ItoaLen
import Derived.Laws.MakeOwn
import Derived.Test.YtnffhcjmpjajlaaDoorKa12
import Derived.Test.YtnffhcjmpjajlaaDoorKa14
namespace Go.Proofs.YtnffhcjmpjajlaaDoor
open Go.RowKit
/-! Frames as lists of what was put where, the last first. -/
/-! The laws of the steps. -/
section steps
variable {P : Program} {o : Oper} {n : Nat} {l : List (Nat × Value)} {w : World} {ops : Array Oper} {rest : List Oper} {Q : Exit → Act → World → Prop} {K : Act → World → Prop}
theorem li1 {a b : Value} (h : a = b) : [a] = [b] := by rw [h]
theorem li4 {a b c d e f g i : Value} (h : a = b) (k : c = d) (m : e = f) (p : g = i) : [a, c, e, g] = [b, d, f, i] := by rw [h, k, m, p]
end steps
end Go.Proofs.YtnffhcjmpjajlaaDoor

namespace Go.Proofs.YtnffhcjmpjajlaaDoor
open Go.RowKit
section
variable {P : Program} {ops : List Oper} {Q : Exit → Act → World → Prop} {n : Nat} {l : List (Nat × Value)}
variable {o : Oper} {w : World} {K : Act → World → Prop}
theorem lp3 {i j q : Nat} {a b c d e f : Value} (h : a = b) (k : c = d) (m : e = f) : [(i, a), (j, c), (q, e)] = [(i, b), (j, d), (q, f)] := by rw [h, k, m]
end
end Go.Proofs.YtnffhcjmpjajlaaDoor

namespace Go.Proofs.YtnffhcjmpjajlaaDoor
open Go.RowKit
section
variable {P : Program} {o : Oper} {n : Nat} {l : List (Nat × Value)} {w : World} {ops : Array Oper} {rest : List Oper} {Q : Exit → Act → World → Prop} {K : Act → World → Prop}
theorem wo_alloc (ty : TypeId) (zs : Array Value) (ho : o.op = .alloc ty) (h : ∀ w, (Instr.alloc ty true (.tuple #[])).run P w = .ok (pt w.heap.size 0) (w.alloc (.cells zs ty))) (hk : ∀ k w', w.heap.size = k → w'.heap.size = k + 1 → Mo w w' → At w' k zs.toList → K (fr n (ext l o.dst (pt k 0))) w') : WO P o n l w K Q := ⟨o_alloc ty zs ho h (fun k w' a b c d => (hk k w' a b c d))⟩
theorem og_new {ol : List Oper} {m : Nat} {W : World} {sp : List Sp} {i : Nat} (zs : List Value) (hs : spAt sp i = .inr zs)
  (h : ∀ f w, Mo W w → (∀ j, depb o j = true → spDen W.heap.size (spAt sp j) (f j) w) → ∀ K : Act → World → Prop, (∀ k w', w.heap.size = k → w'.heap.size = k + 1 → Mo w w' → At w' k zs → K (fr n (ext (asg f 0 (ol.take m) l) o.dst (pt k 0))) w') → Go1 P ol Q n (asg f 0 (ol.take m) l) w K o) : OgW P ol Q n l m W sp i o :=
 ⟨fun f w hm hd K hK => h f w hm hd K (by rw [hs] at hK; exact hK)⟩
theorem la_un (F : Value → Sem Value) (x : Operand) (p v : Value) (ho : ∀ ρ, execOp ρ o = (do pure (.value (← F (ρ x))))) (hx : evl n l x = p) (h : ∀ w, (F p).run P w = .ok v w) : ∀ w, (execOp (evl n l) o).run P w = .ok (.value v) w := fun w => by
 rw [ho, hx]; simp [h]
theorem late_cons {ol : List Oper} {m : Nat} {sp : List Sp} {j : Nat} {r : List Nat} (h : LateO P ol Q n l m sp j) (k : ∀ i, i ∈ r → LateO P ol Q n l m sp i) : ∀ i, i ∈ j :: r → LateO P ol Q n l m sp i := fun i hi => by
 rcases List.mem_cons.1 hi with rfl | hi
 ·exact h
 ·exact k i hi
end
end Go.Proofs.YtnffhcjmpjajlaaDoor

namespace Go.Proofs.YtnffhcjmpjajlaaDoor
open Go.RowKit Go.ChangeMaps
section
variable {P : Program} {o : Oper} {n : Nat} {l : List (Nat × Value)} {w : World} {ops : Array Oper} {rest : List Oper} {Q : Exit → Act → World → Prop} {K : Act → World → Prop} {c : Code}
theorem wl_nc (x : Operand) (k off : Nat) (ho : o.op = .nilCheck x) (hx : evl n l x = pt k off) (hg : wnt n l ops o = true) (hk : WL P ops Q rest n (ext l o.dst (pt k off)) w) : WL P ops Q (o :: rest) n l w :=
 wl_val (pt k off) (by simp [execOp, ho, hx]) hg hk
theorem wo_nc (x : Operand) (k off : Nat) (ho : o.op = .nilCheck x) (hx : evl n l x = pt k off) (hk : K (fr n (ext l o.dst (pt k off))) w) : WO P o n l w K Q :=
 wo_val (pt k off) (by simp [execOp, ho, hx]) hk
end
/-! Maps from names to whole numbers, and from names to flags. -/
variable {w w' : World} {b : Nat} {al : List (ByteArray × Int)}
end Go.Proofs.YtnffhcjmpjajlaaDoor

namespace Go.Proofs.YtnffhcjmpjajlaaDoor
open Go.RowKit D
theorem appG {st et sz bys : Nat} {zv : Value} (hst : Tryd.prog.underlying st = some (.slice et)) (hin : ∃ i, Tryd.prog.info? et = some i ∧ i.zero = some zv ∧ i.size = sz ∧ i.bytes = bys) (hzs : zv.cells.size = sz) (hsz : 0 < sz)
  (w : World) (ty : TypeId) (N : Nat) (v : Value) (n : Nat) (xs : List Value) (hown : w.ownsRow N et sz v n xs) (k m c : Nat) (news : List Value) (hl : news.length = m * sz) (hA : At w k news) (h1 : ∀ u ∈ news, u.oneCell' = true) (hm : 0 < m) (h63 : n + m ≤ maxLen) (hb : (n + m) * bys ≤ 140737488355328) (hN : N ≤ w.heap.size) :
  ∃ v' w', (Builtin.append_ #[st, st] ty #[v, .slice (some ⟨k, 0, none⟩) m c]).run Tryd.prog w = .ok v' w' ∧ w'.ownsRow N et sz v' (n + m) (xs ++ news) ∧ Mk (fun j => v.ownBlock = some j) w w' ∧ (v'.ownBlock = v.ownBlock ∨ v'.ownBlock = some w.heap.size) := by
 obtain ⟨i, hi, hz, hs, hby⟩ := hin
 have hm63 : (m : Int) ≤ 9223372036854775807 := by unfold maxLen at h63; omega
 have hbm : m * bys ≤ 140737488355328 := Nat.le_trans (Nat.mul_le_mul_right _ (by omega)) hb
 have hnews : ∀ j u, news[j]? = some u → w.cell? ((⟨k, 0, none⟩ : Addr).add j) = some u := fun j u hu => by
  rw [Addr.add_mid]; have := hA.1 j u hu; simpa using this
 obtain ⟨v', w', hr, h2, h3, _, h5⟩ := run_append_own_at (P := Tryd.prog) w N st ty et i _ sz bys hst hi hz hs hby hzs hsz v n xs hown ⟨k, 0, none⟩ m c news hl hnews h1 h63 hb hN
 refine ⟨v', w', hr, h2, ⟨h3.os, h3.tape, h3.output, h3.size, fun j hj hne => h3.block j hj (fun e => hne e.symm), ?_⟩, h5⟩
 rcases hown.2 with ⟨rfl, rfl⟩ | ⟨g, cap, cur, rfl, hbg, hg, hnc, hcm, hcs, htake⟩
 ·have hr2 := run_append_nil (P := Tryd.prog) w st ty et i _ hst hi hz ⟨k, 0, none⟩ m c news (by rw [hs]; exact hl) hnews hm hm63 (by rw [hby]; omega)
  rw [hr2] at hr
  cases hr
  exact ((Mo.refl w).drew.alloc _ _).2
 ·by_cases hroom : n + m ≤ cap
  ·have hr2 := run_append_room (P := Tryd.prog) w st ty et i hst hi g n cap cur hg ⟨k, 0, none⟩ m c news (by rw [hs]; exact hl) hnews h1 hroom (by rw [hs, hcs]; exact Nat.mul_le_mul_right _ hroom |> fun h => by first | omega | exact h | (rw [hl]; rw [Nat.add_mul] at h; omega))
   rw [hr2] at hr
   cases hr
   intro a
   by_cases e : a.block = g
   ·have h9 := setRow_heap w g cur (cur.toList.take (n * i.size) ++ news ++ cur.toList.drop (n * i.size + news.length)).toArray et (0, 0) hg
    simp only [World.frozen?, e, h9, hg]
   ·exact World.frozen?_of_block (setRow_other w g a.block _ e)
  ·have hr2 := run_append_grow (P := Tryd.prog) w st ty et i _ hst hi hz ⟨g, 0, none⟩ n cap xs (by rw [hs]; exact hown.1) (hown.cells (g := g) rfl) ⟨k, 0, none⟩ m c news (by rw [hs]; exact hl) hnews (by omega) (by unfold maxLen at h63; omega) (by rw [hby]; exact growslice_fits (by omega) hb)
   rw [hr2] at hr
   cases hr
   exact ((Mo.refl w).drew.alloc _ _).2
theorem own_mo {w w' : World} {N e sz : Nat} {v : Value} {n : Nat} {xs : List Value} (h : w.ownsRow N e sz v n xs) (m : Mo w w') : w'.ownsRow N e sz v n xs :=
 h.kept (row := none) ⟨m.1.os, m.1.tape, m.1.output, m.1.size, fun k hk _ => m.1.block k hk⟩ (by cases e : v.ownBlock <;> simp)
theorem own_mk {D : Nat → Prop} {w w' : World} {N e sz : Nat} {v : Value} {n : Nat} {xs : List Value} (h : w.ownsRow N e sz v n xs) (m : Mk D w w') (hD : ∀ k, v.ownBlock = some k → ¬ D k) : w'.ownsRow N e sz v n xs := by
 refine ⟨h.1, ?_⟩
 rcases h.2 with q | ⟨g, cap, cur, rfl, hg, hb, r⟩
 ·exact Or.inl q
 ·exact Or.inr ⟨g, cap, cur, rfl, hg, (m.block g (Array.getElem?_eq_some_iff.1 hb).1 (hD g rfl)).trans hb, r⟩
section
variable {o : Oper} {n : Nat} {l : List (Nat × Value)} {w : World} {ops : Array Oper} {rest : List Oper} {Q : Exit → Act → World → Prop}
theorem wl_app {st et sz bys : Nat} {zv : Value} (hst : Tryd.prog.underlying st = some (.slice et)) (hin : ∃ i, Tryd.prog.info? et = some i ∧ i.zero = some zv ∧ i.size = sz ∧ i.bytes = bys) (hzs : zv.cells.size = sz) (hsz : 0 < sz) (s x : Operand) (N : Nat) (v : Value) (q : Nat) (xs : List Value) (k m c : Nat) (news : List Value) (ho : o.op = .call { callee := .builtin .append, args := #[s, x], argTypes := #[st, st] }) (hs : evl n l s = v) (hx : evl n l x = .slice (some ⟨k, 0, none⟩) m c)
  (hown : w.ownsRow N et sz v q xs) (hl : news.length = m * sz) (hA : At w k news) (h1 : ∀ u ∈ news, u.oneCell' = true) (hm : 0 < m) (h63 : q + m ≤ maxLen) (hb : (q + m) * bys ≤ 140737488355328) (hN : N ≤ w.heap.size) (hg : wnt n l ops o = true)
  (hk : ∀ v' w', w'.ownsRow N et sz v' (q + m) (xs ++ news) → Mk (fun j => v.ownBlock = some j) w w' → (v'.ownBlock = v.ownBlock ∨ v'.ownBlock = some w.heap.size) → WL Tryd.prog ops Q rest n (ext l o.dst v') w') : WL Tryd.prog ops Q (o :: rest) n l w := by
 obtain ⟨v', w', hr, h2, h3, h4⟩ := appG hst hin hzs hsz w o.type N v q xs hown k m c news hl hA h1 hm h63 hb hN
 refine ⟨l_step hg (o_val v' (w' := w') ?_ (hk v' w' h2 h3 h4).out)⟩
 unfold execOp
 simp only [ho, resolve, invoke, builtin, Sem.run_bind, Sem.run_pure, Result.andThen_ok, List.map_toArray, List.map_cons, List.map_nil, hs, hx, hr]
end
end Go.Proofs.YtnffhcjmpjajlaaDoor

namespace Go.Proofs.YtnffhcjmpjajlaaDoor
open Go.RowKit D
theorem sz22 : (Tryd.prog.info? 22).map (·.size) = some 1 := by kernel_rfl
def kidE (l : List S5) (r : Ro) (s n : Int) : Int := if ckR l r = 0 then (if decide (1 ≤ s) && (decide (s < (l.length : Int)) && (decide (prA l s.toNat = r.s) && idk n)) then 0 else 150) else ckR l r
def kidR (l : List S5) (r : Ro) (s n : Int) : Ro := if kidE l r s n = 0 then ⟨s, (setR (dpA l s.toNat) r n).a, (setR (dpA l s.toNat) r n).b, (setR (dpA l s.toNat) r n).c⟩ else ro0
end Go.Proofs.YtnffhcjmpjajlaaDoor

namespace Go.Proofs.YtnffhcjmpjajlaaDoor
open Go.RowKit D
theorem rq {a b : Ro} {f g : Int} (h1 : a = b) (h2 : f = g) : Ending.returned (.tuple #[a.v, .int .i64 f]) = .returned (.tuple #[b.v, .int .i64 g]) := by rw [h1, h2]
theorem kid_b {l : List S5} {r : Ro} {s n : Int} (h : ¬ ckR l r = 0) : kidE l r s n = ckR l r ∧ kidR l r s n = ro0 := by
 have e : kidE l r s n = ckR l r := by unfold kidE; rw [if_neg h]
 exact ⟨e, by unfold kidR; rw [e, if_neg h]⟩
theorem kid_n {l : List S5} {r : Ro} {s n : Int} (h : ckR l r = 0) (q : ¬ (1 ≤ s ∧ s < (l.length : Int) ∧ prA l s.toNat = r.s ∧ idk n = true)) : kidE l r s n = 150 ∧ kidR l r s n = ro0 := by
 have e : kidE l r s n = 150 := by unfold kidE; rw [if_pos h, if_neg]; simp only [Bool.and_eq_true, decide_eq_true_eq]; exact q
 exact ⟨e, by unfold kidR; rw [e]; rfl⟩
theorem kid_v {l : List S5} {r : Ro} {s n : Int} {y : S5} (h : ckR l r = 0) (h1 : 1 ≤ s) (h2 : s < (l.length : Int)) (hy : l[s.toNat]? = some y) (h3 : y.pr = r.s) (h4 : idk n = true) : kidE l r s n = 0 ∧ kidR l r s n = ⟨s, (setR y.dp r n).a, (setR y.dp r n).b, (setR y.dp r n).c⟩ := by
 have e : kidE l r s n = 0 := by unfold kidE; rw [if_pos h, if_pos]; simp [h1, h2, h4, prA_at hy, h3]
 exact ⟨e, by unfold kidR; rw [e, if_pos rfl, dpA_at hy]⟩
end Go.Proofs.YtnffhcjmpjajlaaDoor

namespace Go.Proofs.YtnffhcjmpjajlaaDoor
open Go.RowKit D
def arN (l : List S5) (sec : Int) : Nat → Ro → Option Ro
 | 0, r => if r.s = sec then some r else none
 | n + 1, r => if r.s = sec then some r else if parO l r then arN l sec n (parU l r) else none
theorem arN_fuel (l : List S5) (sec : Int) : ∀ (n m : Nat) (r : Ro), r.s.toNat ≤ n → r.s.toNat ≤ m → arN l sec n r = arN l sec m r
 | 0, 0, r, _, _ => rfl
 | 0, m + 1, r, h, _ => by
  rw [arN, arN]
  have : parO l r = false := by
   cases e : parO l r with
   | false => rfl
   | true => have := par_t e; omega
  rw [this]; simp
 | n + 1, 0, r, _, h => by
  rw [arN, arN]
  have : parO l r = false := by
   cases e : parO l r with
   | false => rfl
   | true => have := par_t e; omega
  rw [this]; simp
 | n + 1, m + 1, r, h1, h2 => by
  rw [arN, arN]
  split; · rfl
  split
  next e => have := par_t e; exact arN_fuel l sec n m _ (by omega) (by omega)
  next => rfl
def arO (l : List S5) (sec : Int) (r : Ro) : Option Ro := arN l sec r.s.toNat r
theorem ar_hit {l : List S5} {sec : Int} {r : Ro} (h : r.s = sec) : arO l sec r = some r := by
 unfold arO; cases r.s.toNat <;> (rw [arN, if_pos h])
theorem ar_up {l : List S5} {sec : Int} {r : Ro} (h : ¬ r.s = sec) (hp : parO l r = true) : arO l sec r = arO l sec (parU l r) := by
 have q := par_t hp
 unfold arO
 obtain ⟨k, hk⟩ : ∃ k, r.s.toNat = k + 1 := ⟨r.s.toNat - 1, by omega⟩
 rw [hk, arN, if_neg h, if_pos hp]
 exact arN_fuel l sec _ _ _ (by omega) (by omega)
theorem ar_no {l : List S5} {sec : Int} {r : Ro} (h : ¬ r.s = sec) (hp : parO l r = false) : arO l sec r = none := by
 unfold arO; cases r.s.toNat <;> (rw [arN, if_neg h])
 rw [hp]; rfl
def aroB (l : List S5) (r : Ro) (sec : Int) : Bool := decide (ckR l r = 0) && (arO l sec r).isSome
def aroR (l : List S5) (r : Ro) (sec : Int) : Ro := if ckR l r = 0 then (arO l sec r).getD ro0 else ro0
theorem sR_eq {x y : Ro} : sR x y = true ↔ x = y := by
 obtain ⟨a, b, c, d⟩ := x
 obtain ⟨a', b', c', d'⟩ := y
 simp [sR]
def witB (l : List S5) (r o : Ro) : Bool := aroB l r o.s && (decide (ckR l o = 0) && sR (aroR l r o.s) o)
end Go.Proofs.YtnffhcjmpjajlaaDoor

namespace Go.Proofs.YtnffhcjmpjajlaaDoor
open Go.RowKit D
theorem nea_run {ty : TypeId} {a b : Array Value} {r : Bool} {w : World} (hg : Tryd.prog.eqGuardType Tryd.prog.depth ty = false) (q : (Op.equalIn 10000 ty (.agg a) (.agg b)).run Tryd.prog w = .ok r w) (x y : Operand) :
  (do eqGuard .neq ty x y (.agg a) (.agg b); binOp .neq ty (.agg a) (.agg b)).run Tryd.prog w = .ok (.bool (!r)) w := by
 have e : binOp .neq ty (.agg a) (.agg b) = (do pure (.bool (!(← Op.equalIn 10000 ty (.agg a) (.agg b))))) := rfl
 rw [Sem.run_bind, guard_run x y hg, e, Result.andThen_ok, Sem.run_bind, q]; rfl
theorem neR {x y : Ro} {r : Bool} (h : sR x y = r) (p q : Operand) (w : World) : (do eqGuard .neq 25 p q x.v y.v; binOp .neq 25 x.v y.v).run Tryd.prog w = .ok (.bool (!r)) w := nea_run gt25 (by rw [← h]; exact eqRo 9997 x y w) p q
end Go.Proofs.YtnffhcjmpjajlaaDoor

namespace Go.Proofs.YtnffhcjmpjajlaaDoor
open Go.RowKit D
theorem ar_in {l : List S5} {sec : Int} : ∀ (n : Nat) (r x : Ro), r.s.toNat ≤ n → arO l sec r = some x → x.s = sec ∧ x.s ≤ r.s := by
 intro n
 induction n with
 | zero =>
  intro r x hn h
  by_cases e : r.s = sec
  ·rw [ar_hit e] at h; cases h; exact ⟨e, Int.le_refl _⟩
  ·cases q : parO l r with
   | true => have := par_t q; omega
   | false => rw [ar_no e q] at h; cases h
 | succ n ih =>
  intro r x hn h
  by_cases e : r.s = sec
  ·rw [ar_hit e] at h; cases h; exact ⟨e, Int.le_refl _⟩
  ·cases q : parO l r with
   | true =>
    have p := par_t q
    rw [ar_up e q] at h
    have := ih _ _ (by omega) h
    exact ⟨this.1, by omega⟩
   | false => rw [ar_no e q] at h; cases h
theorem wit_iff {l : List S5} {r o : Ro} : witB l r o = true ↔ ckR l r = 0 ∧ ckR l o = 0 ∧ arO l o.s r = some o := by
 unfold witB aroB aroR
 simp only [Bool.and_eq_true, decide_eq_true_eq, sR_eq]
 constructor
 ·rintro ⟨⟨h1, h2⟩, h3, h4⟩
  obtain ⟨x, hx⟩ := Option.isSome_iff_exists.1 h2
  rw [if_pos h1, hx] at h4
  refine ⟨h1, h3, ?_⟩
  rw [hx]; exact congrArg some h4
 ·rintro ⟨h1, h2, h3⟩
  rw [if_pos h1, h3]
  exact ⟨⟨h1, rfl⟩, h2, rfl⟩
end Go.Proofs.YtnffhcjmpjajlaaDoor

namespace Go.Proofs.YtnffhcjmpjajlaaDoor
open Go.RowKit D
theorem root_pr {l : List S5} (h : snd l = true) {x : S5} (hx : l[0]? = some x) : x.pr = -1 := by
 rcases sb_inv (snd_iff.1 h 0 (lt_of_get hx) x hx) with ⟨_, e, _⟩ | ⟨h0, _⟩
 ·exact e
 ·omega
theorem pkid_n {L : List S5} {pl : Option Addr} {cl : Nat} {r : Ro} {s n : Int} (w : World) (hL : LL w pl L) (hcl : L.length ≤ cl) : Calls Tryd.prog 27 #[.slice pl L.length cl, r.v, .int .i64 s, .int .i64 n] w fun e9 w' => e9 = .returned (.tuple #[(kidR L r s n).v, .int .i64 (kidE L r s n)]) ∧ Mo w w' := by
 refine w_enter 47 Tryd.func27 Tryd.ntmps27 rfl rfl ?_
 have M : Mo w w := Mo.refl _
 refine w_seq (w_reg ?_)
 refine wl_box 25 (.tmp 1) _ (((r.cells).toArray)) rfl rfl (fun _ => by kernel_rfl) rfl ?_
 intro k1 u1 hk hz hq Q1
 have N_k1 : w.heap.size ≤ k1 := by have := M.size; omega
 replace M := M.trans hq
 clear hk hz hq
 refine wl_alloc 25 #[.int .i64 0, .int .i64 0, .int .i64 0, .int .i64 0] rfl (fun _ => by kernel_rfl) rfl ?_
 intro k2 u2 hk hz hq Q2
 have ne_k1_k2 : k1 ≠ k2 := by have := Q1.lt; omega
 have N_k2 : w.heap.size ≤ k2 := by have := M.size; omega
 replace Q1 := Q1.mo hq
 replace M := M.trans hq
 clear hk hz hq
 refine wl_m (.const (.int .i64 (0))) (.int .i64 (0)) ?_
 refine w_nil (xn_then (w_seq (w_seq (w_reg ?_))))
 refine wl_m (.tmp 0) (.slice pl L.length cl) ?_
 refine wl_l 25 (.tmp 5) (pt k1 0) (.agg (r.cells).toArray) (run_row Q1 25 0 4 (r.cells) rfl Tryd.underlying25 rfl sz25) ?_
 refine wl_call 10 [(.tmp 11), (.tmp 12)] _ [.slice pl L.length cl, .agg (r.cells).toArray] (.int .i64 (ckR L r)) rfl rfl (fun _ _ => by kernel_rfl) (pck_n _ (hL.mo M) hcl) rfl ?_
 intro u3 hq
 replace Q1 := Q1.mo hq
 replace Q2 := Q2.mo hq
 replace M := M.trans hq
 clear hq
 refine wl_m (.tmp 13) (.int .i64 (ckR L r)) ?_
 refine w_nil (xn_then (w_seq (w_reg ?_)))
 refine wl_m (.tmp 10) (.int .i64 (ckR L r)) ?_
 cases hf0 : decide (ckR L r = 0) with
 | true =>
  have hf0p := of_decide_eq_true hf0
  refine wl_b .neq 31 (.tmp 14) (.const (.int .i64 (0))) (.int .i64 (ckR L r)) (.int .i64 (0)) (.bool false) (ne34 hf0 _ _ _) ?_
  refine w_nil (xn_then (w_condF rfl (w_skip (xn_then (w_seq (w_seq ?_))))))
  obtain ⟨hsn, hs0, hs1, hsi⟩ := ck_0 hf0p
  obtain ⟨p, hp9⟩ := get_any L s.toNat
  cases hf1 : decide (s < 0) with
  | true =>
   have hf1p := of_decide_eq_true hf1
   refine w_any 16 [.inl (.int .i64 (s)), .inl (.bool true), .inl (.bool true), .inl undef, .inl undef, .inl undef, .inl undef, .inl (.bool true), .inl (.bool true), .inl undef, .inl undef, .inl undef, .inl undef, .inl undef, .inl undef, .inl undef] [] (by kernel_rfl) (by kernel_rfl) (by kernel_rfl) (by kernel_rfl) rfl (by kernel_rfl) (by kernel_rfl) late_nil ?_ ?_ ?_
   ·exact Ds.none rfl
   ·refine ea_cons ?_ (ea_cons ?_ (ea_cons ?_ (ea_cons ?_ (ea_cons ?_ (ea_cons ?_ (ea_cons ?_ (ea_cons ?_ (ea_cons ?_ (ea_cons ?_ (ea_cons ?_ (ea_cons ?_ (ea_cons ?_ (ea_cons ?_ (ea_cons ?_ (ea_cons ?_ (ea_nil))))))))))))))))
    ·exact og_eq _ rfl (fun f wf hq hd K hK => go_run rfl (wo_mv (.tmp 2) (.int .i64 (s)) (fun _ => rfl) rfl (hK _ (Mo.refl _))))
    ·exact og_eq _ rfl (fun f wf hq hd K hK => go_run rfl (wo_bin (fun x y => do eqGuard .lss 3 (.tmp 18) (.const (.int .i64 (0))) x y; binOp .lss 3 x y) (.tmp 18) (.const (.int .i64 (0))) (.int .i64 (s)) (.int .i64 (0)) (.bool true) (fun _ => rfl) (hd 0 rfl) rfl (lt3 hf1 _ _ _) (hK _ (Mo.refl _))))
    ·exact og_eq _ rfl (fun f wf hq hd K hK => go_run rfl (wo_mv (.tmp 19) (.bool true) (fun _ => rfl) (hd 1 rfl) (hK _ (Mo.refl _))))
    ·exact og_eq _ rfl (fun f wf hq hd K hK => go_pass (wnt_g rfl rfl rfl (hd 2 rfl) rfl) (hK _ (Mo.refl _)))
    ·exact og_eq _ rfl (fun f wf hq hd K hK => go_pass (wnt_g rfl rfl rfl (hd 2 rfl) rfl) (hK _ (Mo.refl _)))
    ·exact og_eq _ rfl (fun f wf hq hd K hK => go_pass (wnt_g rfl rfl rfl (hd 2 rfl) rfl) (hK _ (Mo.refl _)))
    ·exact og_eq _ rfl (fun f wf hq hd K hK => go_pass (wnt_g rfl rfl rfl (hd 2 rfl) rfl) (hK _ (Mo.refl _)))
    ·exact og_eq _ rfl (fun f wf hq hd K hK => go_run rfl (wo_pick (.tmp 20) (.const (.bool true)) (.tmp 24) true (.bool true) (fun _ => rfl) (hd 2 rfl) rfl (hK _ (Mo.refl _))))
    ·exact og_eq _ rfl (fun f wf hq hd K hK => go_run rfl (wo_mv (.tmp 25) (.bool true) (fun _ => rfl) (hd 7 rfl) (hK _ (Mo.refl _))))
    ·exact og_eq _ rfl (fun f wf hq hd K hK => go_pass (wnt_g rfl rfl rfl (hd 8 rfl) rfl) (hK _ (Mo.refl _)))
    ·exact og_eq _ rfl (fun f wf hq hd K hK => go_pass (wnt_g rfl rfl rfl (hd 8 rfl) rfl) (hK _ (Mo.refl _)))
    ·exact og_eq _ rfl (fun f wf hq hd K hK => go_pass (wnt_g rfl rfl rfl (hd 8 rfl) rfl) (hK _ (Mo.refl _)))
    ·exact og_eq _ rfl (fun f wf hq hd K hK => go_pass (wnt_g rfl rfl rfl (hd 8 rfl) rfl) (hK _ (Mo.refl _)))
    ·exact og_eq _ rfl (fun f wf hq hd K hK => go_pass (wnt_g rfl rfl rfl (hd 8 rfl) rfl) (hK _ (Mo.refl _)))
    ·exact og_eq _ rfl (fun f wf hq hd K hK => go_pass (wnt_g rfl rfl rfl (hd 8 rfl) rfl) (hK _ (Mo.refl _)))
    ·exact og_eq _ rfl (fun f wf hq hd K hK => go_pass (wnt_g rfl rfl rfl (hd 8 rfl) rfl) (hK _ (Mo.refl _)))
   intro kf4 u4 hq hR hne
   replace Q1 := Q1.mo hq
   replace Q2 := Q2.mo hq
   replace M := M.trans hq
   clear hq hR hne
   refine wl_skip rfl ?_
   refine wl_pick (.tmp 26) (.const (.bool true)) (.tmp 34) true (.bool true) (fun _ => rfl) rfl rfl rfl ?_
   refine wl_m (.tmp 35) (.bool true) ?_
   refine wl_skip rfl (wl_skip rfl (wl_skip rfl ?_))
   refine wl_pick (.tmp 36) (.const (.bool true)) (.tmp 39) true (.bool true) (fun _ => rfl) rfl rfl rfl ?_
   refine w_nil (xn_then (w_condT rfl (w_seq (w_reg ?_))))
   refine wl_build 25 [] [] (.agg #[.int .i64 0, .int .i64 0, .int .i64 0, .int .i64 0]) rfl rfl (by kernel_rfl) rfl ?_
   refine wl_st 25 (.tmp 8) (.tmp 41) k2 0 #[.int .i64 0, .int .i64 0, .int .i64 0, .int .i64 0] _ [.int .i64 0, .int .i64 0, .int .i64 0, .int .i64 0] Q2 rfl rfl rfl rfl rfl sz25 rfl rfl rfl ?_
   intro u5 hS Qn
   replace Q2 := Qn
   clear Qn
   replace Q1 := hS.other _ _ ne_k1_k2 Q1
   replace M := hS.mo _ N_k2 M
   clear hS
   refine wl_m (.const (.int .i64 (150))) (.int .i64 (150)) ?_
   refine w_nil (xn_then (w_ret (xr_then ?_)))
   exact w_ret2 _ _ (.agg #[.int .i64 0, .int .i64 0, .int .i64 0, .int .i64 0]) (.int .i64 (150)) rfl ⟨k2, rfl, (run_row Q2 25 0 4 _ rfl Tryd.underlying25 rfl sz25)⟩ rfl ⟨rq (a := ro0) (kid_n hf0p (fun h => by obtain ⟨h1, h2, h3, h4⟩ := h; first | omega)).2.symm (kid_n hf0p (fun h => by obtain ⟨h1, h2, h3, h4⟩ := h; first | omega)).1.symm, M⟩
  | false =>
   have hf1p := of_decide_eq_false hf1
   cases hf2 : decide (((L.length : Nat) : Int) ≤ s) with
   | true =>
    have hf2p := of_decide_eq_true hf2
    refine w_any 16 [.inl (.int .i64 (s)), .inl (.bool false), .inl (.bool false), .inl (.int .i64 (s)), .inl (.slice pl L.length cl), .inl (.int .i64 ((L.length : Nat) : Int)), .inl (.bool true), .inl (.bool true), .inl (.bool true), .inl undef, .inl undef, .inl undef, .inl undef, .inl undef, .inl undef, .inl undef] [] (by kernel_rfl) (by kernel_rfl) (by kernel_rfl) (by kernel_rfl) rfl (by kernel_rfl) (by kernel_rfl) late_nil ?_ ?_ ?_
    ·exact Ds.none rfl
    ·refine ea_cons ?_ (ea_cons ?_ (ea_cons ?_ (ea_cons ?_ (ea_cons ?_ (ea_cons ?_ (ea_cons ?_ (ea_cons ?_ (ea_cons ?_ (ea_cons ?_ (ea_cons ?_ (ea_cons ?_ (ea_cons ?_ (ea_cons ?_ (ea_cons ?_ (ea_cons ?_ (ea_nil))))))))))))))))
     ·exact og_eq _ rfl (fun f wf hq hd K hK => go_run rfl (wo_mv (.tmp 2) (.int .i64 (s)) (fun _ => rfl) rfl (hK _ (Mo.refl _))))
     ·exact og_eq _ rfl (fun f wf hq hd K hK => go_run rfl (wo_bin (fun x y => do eqGuard .lss 3 (.tmp 18) (.const (.int .i64 (0))) x y; binOp .lss 3 x y) (.tmp 18) (.const (.int .i64 (0))) (.int .i64 (s)) (.int .i64 (0)) (.bool false) (fun _ => rfl) (hd 0 rfl) rfl (lt3 hf1 _ _ _) (hK _ (Mo.refl _))))
     ·exact og_eq _ rfl (fun f wf hq hd K hK => go_run rfl (wo_mv (.tmp 19) (.bool false) (fun _ => rfl) (hd 1 rfl) (hK _ (Mo.refl _))))
     ·exact og_eq _ rfl (fun f wf hq hd K hK => go_run (wnt_g rfl rfl rfl (hd 2 rfl) rfl) (wo_mv (.tmp 2) (.int .i64 (s)) (fun _ => rfl) rfl (hK _ (Mo.refl _))))
     ·exact og_eq _ rfl (fun f wf hq hd K hK => go_run (wnt_g rfl rfl rfl (hd 2 rfl) rfl) (wo_mv (.tmp 0) (.slice pl L.length cl) (fun _ => rfl) rfl (hK _ (Mo.refl _))))
     ·exact og_eq _ rfl (fun f wf hq hd K hK => go_run (wnt_g rfl rfl rfl (hd 2 rfl) rfl) (wo_val (.int .i64 ((L.length : Nat) : Int)) (len22 _ _ _ _ _ (by exact (hd 4 rfl)) _ _ _ _ _ _) (hK _ (Mo.refl _))))
     ·exact og_eq _ rfl (fun f wf hq hd K hK => go_run (wnt_g rfl rfl rfl (hd 2 rfl) rfl) (wo_bin (fun x y => do eqGuard .geq 3 (.tmp 21) (.tmp 23) x y; binOp .geq 3 x y) (.tmp 21) (.tmp 23) (.int .i64 (s)) (.int .i64 ((L.length : Nat) : Int)) (.bool true) (fun _ => rfl) (hd 3 rfl) (hd 5 rfl) (ge3 hf2 _ _ _) (hK _ (Mo.refl _))))
     ·exact og_eq _ rfl (fun f wf hq hd K hK => go_run rfl (wo_pick (.tmp 20) (.const (.bool true)) (.tmp 24) false (.bool true) (fun _ => rfl) (hd 2 rfl) (hd 6 rfl) (hK _ (Mo.refl _))))
     ·exact og_eq _ rfl (fun f wf hq hd K hK => go_run rfl (wo_mv (.tmp 25) (.bool true) (fun _ => rfl) (hd 7 rfl) (hK _ (Mo.refl _))))
     ·exact og_eq _ rfl (fun f wf hq hd K hK => go_pass (wnt_g rfl rfl rfl (hd 8 rfl) rfl) (hK _ (Mo.refl _)))
     ·exact og_eq _ rfl (fun f wf hq hd K hK => go_pass (wnt_g rfl rfl rfl (hd 8 rfl) rfl) (hK _ (Mo.refl _)))
     ·exact og_eq _ rfl (fun f wf hq hd K hK => go_pass (wnt_g rfl rfl rfl (hd 8 rfl) rfl) (hK _ (Mo.refl _)))
     ·exact og_eq _ rfl (fun f wf hq hd K hK => go_pass (wnt_g rfl rfl rfl (hd 8 rfl) rfl) (hK _ (Mo.refl _)))
     ·exact og_eq _ rfl (fun f wf hq hd K hK => go_pass (wnt_g rfl rfl rfl (hd 8 rfl) rfl) (hK _ (Mo.refl _)))
     ·exact og_eq _ rfl (fun f wf hq hd K hK => go_pass (wnt_g rfl rfl rfl (hd 8 rfl) rfl) (hK _ (Mo.refl _)))
     ·exact og_eq _ rfl (fun f wf hq hd K hK => go_pass (wnt_g rfl rfl rfl (hd 8 rfl) rfl) (hK _ (Mo.refl _)))
    intro kf4 u4 hq hR hne
    replace Q1 := Q1.mo hq
    replace Q2 := Q2.mo hq
    replace M := M.trans hq
    clear hq hR hne
    refine wl_skip rfl ?_
    refine wl_pick (.tmp 26) (.const (.bool true)) (.tmp 34) true (.bool true) (fun _ => rfl) rfl rfl rfl ?_
    refine wl_m (.tmp 35) (.bool true) ?_
    refine wl_skip rfl (wl_skip rfl (wl_skip rfl ?_))
    refine wl_pick (.tmp 36) (.const (.bool true)) (.tmp 39) true (.bool true) (fun _ => rfl) rfl rfl rfl ?_
    refine w_nil (xn_then (w_condT rfl (w_seq (w_reg ?_))))
    refine wl_build 25 [] [] (.agg #[.int .i64 0, .int .i64 0, .int .i64 0, .int .i64 0]) rfl rfl (by kernel_rfl) rfl ?_
    refine wl_st 25 (.tmp 8) (.tmp 41) k2 0 #[.int .i64 0, .int .i64 0, .int .i64 0, .int .i64 0] _ [.int .i64 0, .int .i64 0, .int .i64 0, .int .i64 0] Q2 rfl rfl rfl rfl rfl sz25 rfl rfl rfl ?_
    intro u5 hS Qn
    replace Q2 := Qn
    clear Qn
    replace Q1 := hS.other _ _ ne_k1_k2 Q1
    replace M := hS.mo _ N_k2 M
    clear hS
    refine wl_m (.const (.int .i64 (150))) (.int .i64 (150)) ?_
    refine w_nil (xn_then (w_ret (xr_then ?_)))
    exact w_ret2 _ _ (.agg #[.int .i64 0, .int .i64 0, .int .i64 0, .int .i64 0]) (.int .i64 (150)) rfl ⟨k2, rfl, (run_row Q2 25 0 4 _ rfl Tryd.underlying25 rfl sz25)⟩ rfl ⟨rq (a := ro0) (kid_n hf0p (fun h => by obtain ⟨h1, h2, h3, h4⟩ := h; first | omega)).2.symm (kid_n hf0p (fun h => by obtain ⟨h1, h2, h3, h4⟩ := h; first | omega)).1.symm, M⟩
   | false =>
    have hf2p := of_decide_eq_false hf2
    cases hf3 : decide (p.pr = r.s) with
    | true =>
     have hf3p := of_decide_eq_true hf3
     cases hf4 : idk n with
     | true =>
      have hp := hp9 (by omega)
      have hlp := lt_of_get hp
      obtain ⟨bq, oq, hpq, hRq⟩ := D.SL.rw hL.sl hp
      refine w_any 16 [.inl (.int .i64 (s)), .inl (.bool false), .inl (.bool false), .inl (.int .i64 (s)), .inl (.slice pl L.length cl), .inl (.int .i64 ((L.length : Nat) : Int)), .inl (.bool false), .inl (.bool false), .inl (.bool false), .inl (.slice pl L.length cl), .inl (.int .i64 (s)), .inl (pt bq (oq + s.toNat * 5)), .inl (pt bq (oq + s.toNat * 5)), .inl (.int .i64 (p.pr)), .inl (pt k1 0), .inl (.int .i64 (r.s))] [] (by kernel_rfl) (by kernel_rfl) (by kernel_rfl) (by kernel_rfl) rfl (by kernel_rfl) (by kernel_rfl) late_nil ?_ ?_ ?_
      ·exact Ds.none rfl
      ·refine ea_cons ?_ (ea_cons ?_ (ea_cons ?_ (ea_cons ?_ (ea_cons ?_ (ea_cons ?_ (ea_cons ?_ (ea_cons ?_ (ea_cons ?_ (ea_cons ?_ (ea_cons ?_ (ea_cons ?_ (ea_cons ?_ (ea_cons ?_ (ea_cons ?_ (ea_cons ?_ (ea_nil))))))))))))))))
       ·exact og_eq _ rfl (fun f wf hq hd K hK => go_run rfl (wo_mv (.tmp 2) (.int .i64 (s)) (fun _ => rfl) rfl (hK _ (Mo.refl _))))
       ·exact og_eq _ rfl (fun f wf hq hd K hK => go_run rfl (wo_bin (fun x y => do eqGuard .lss 3 (.tmp 18) (.const (.int .i64 (0))) x y; binOp .lss 3 x y) (.tmp 18) (.const (.int .i64 (0))) (.int .i64 (s)) (.int .i64 (0)) (.bool false) (fun _ => rfl) (hd 0 rfl) rfl (lt3 hf1 _ _ _) (hK _ (Mo.refl _))))
       ·exact og_eq _ rfl (fun f wf hq hd K hK => go_run rfl (wo_mv (.tmp 19) (.bool false) (fun _ => rfl) (hd 1 rfl) (hK _ (Mo.refl _))))
       ·exact og_eq _ rfl (fun f wf hq hd K hK => go_run (wnt_g rfl rfl rfl (hd 2 rfl) rfl) (wo_mv (.tmp 2) (.int .i64 (s)) (fun _ => rfl) rfl (hK _ (Mo.refl _))))
       ·exact og_eq _ rfl (fun f wf hq hd K hK => go_run (wnt_g rfl rfl rfl (hd 2 rfl) rfl) (wo_mv (.tmp 0) (.slice pl L.length cl) (fun _ => rfl) rfl (hK _ (Mo.refl _))))
       ·exact og_eq _ rfl (fun f wf hq hd K hK => go_run (wnt_g rfl rfl rfl (hd 2 rfl) rfl) (wo_val (.int .i64 ((L.length : Nat) : Int)) (len22 _ _ _ _ _ (by exact (hd 4 rfl)) _ _ _ _ _ _) (hK _ (Mo.refl _))))
       ·exact og_eq _ rfl (fun f wf hq hd K hK => go_run (wnt_g rfl rfl rfl (hd 2 rfl) rfl) (wo_bin (fun x y => do eqGuard .geq 3 (.tmp 21) (.tmp 23) x y; binOp .geq 3 x y) (.tmp 21) (.tmp 23) (.int .i64 (s)) (.int .i64 ((L.length : Nat) : Int)) (.bool false) (fun _ => rfl) (hd 3 rfl) (hd 5 rfl) (ge3 hf2 _ _ _) (hK _ (Mo.refl _))))
       ·exact og_eq _ rfl (fun f wf hq hd K hK => go_run rfl (wo_pick (.tmp 20) (.const (.bool true)) (.tmp 24) false (.bool false) (fun _ => rfl) (hd 2 rfl) (hd 6 rfl) (hK _ (Mo.refl _))))
       ·exact og_eq _ rfl (fun f wf hq hd K hK => go_run rfl (wo_mv (.tmp 25) (.bool false) (fun _ => rfl) (hd 7 rfl) (hK _ (Mo.refl _))))
       ·exact og_eq _ rfl (fun f wf hq hd K hK => go_run (wnt_g rfl rfl rfl (hd 8 rfl) rfl) (wo_mv (.tmp 0) (.slice pl L.length cl) (fun _ => rfl) rfl (hK _ (Mo.refl _))))
       ·exact og_eq _ rfl (fun f wf hq hd K hK => go_run (wnt_g rfl rfl rfl (hd 8 rfl) rfl) (wo_mv (.tmp 2) (.int .i64 (s)) (fun _ => rfl) rfl (hK _ (Mo.refl _))))
       ·exact og_eq _ rfl (fun f wf hq hd K hK => go_run (wnt_g rfl rfl rfl (hd 8 rfl) rfl) (wo_bin (fun x y => Instr.indexAt 22 x y) (.tmp 27) (.tmp 28) (.slice pl L.length cl) (.int .i64 (s)) (pt bq (oq + s.toNat * 5)) (fun _ => rfl) (hd 9 rfl) (hd 10 rfl) (ix22I (show 0 ≤ s by omega) hpq hlp _) (hK _ (Mo.refl _))))
       ·exact og_eq _ rfl (fun f wf hq hd K hK => go_run (wnt_g rfl rfl rfl (hd 8 rfl) rfl) (wo_un (fun v => Instr.fieldAt 65 v 0) (.tmp 29) (pt bq (oq + s.toNat * 5)) (pt bq (oq + s.toNat * 5)) (fun _ => rfl) (hd 11 rfl) (by kernel_rfl) (hK _ (Mo.refl _))))
       ·exact og_eq _ rfl (fun f wf hq hd K hK => go_run (wnt_g rfl rfl rfl (hd 8 rfl) rfl) (wo_load 3 (.tmp 30) (pt bq (oq + s.toNat * 5)) (.int .i64 (p.pr)) rfl (hd 12 rfl) (D.run_oneR (hRq.mo (M.trans hq)).at' 3 0 rfl Tryd.underlying3 rfl) (hK _ (Mo.refl _))))
       ·exact og_eq _ rfl (fun f wf hq hd K hK => go_run (wnt_g rfl rfl rfl (hd 8 rfl) rfl) (wo_un (fun v => Instr.fieldAt 25 v 0) (.tmp 5) (pt k1 0) (pt k1 0) (fun _ => rfl) rfl (by kernel_rfl) (hK _ (Mo.refl _))))
       ·exact og_eq _ rfl (fun f wf hq hd K hK => have Q1 := Q1.mo hq; go_run (wnt_g rfl rfl rfl (hd 8 rfl) rfl) (wo_load 3 (.tmp 32) (pt k1 0) (.int .i64 (r.s)) rfl (hd 14 rfl) (run_one Q1 3 0 rfl Tryd.underlying3 rfl) (hK _ (Mo.refl _))))
      intro kf4 u4 hq hR hne
      replace Q1 := Q1.mo hq
      replace Q2 := Q2.mo hq
      replace M := M.trans hq
      clear hq hR hne
      refine wl_b .neq 3 (.tmp 31) (.tmp 33) (.int .i64 (p.pr)) (.int .i64 (r.s)) (.bool false) (ne3 hf3 _ _ _) ?_
      refine wl_pick (.tmp 26) (.const (.bool true)) (.tmp 34) false (.bool false) (fun _ => rfl) rfl rfl rfl ?_
      refine wl_m (.tmp 35) (.bool false) ?_
      refine wl_m (.tmp 3) (.int .i64 (n)) ?_
      refine wl_call 31 [(.tmp 37)] _ [.int .i64 (n)] (.bool true) rfl rfl (fun _ _ => by kernel_rfl) (cB hf4 (pis_n n _)) rfl ?_
      intro u5 hq
      replace Q1 := Q1.mo hq
      replace Q2 := Q2.mo hq
      replace M := M.trans hq
      clear hq
      refine wl_un (fun v => Op.unary .not v) (.tmp 38) (.bool true) (.bool false) (fun _ => rfl) rfl (by kernel_rfl) rfl ?_
      refine wl_pick (.tmp 36) (.const (.bool true)) (.tmp 39) false (.bool false) (fun _ => rfl) rfl rfl rfl ?_
      refine w_nil (xn_then (w_condF rfl (w_skip (xn_then (w_seq ?_)))))
      have hs9 : s ≠ 0 := fun e => by have h9 := root_pr hsn (x := p) (by have h8 := hp; rw [e] at h8; exact h8); omega
      obtain ⟨_, _, _, _, _, hd2, hd4⟩ := pr_at hsn hp (show s.toNat ≠ 0 by omega)
      refine w_reg ?_
      refine wl_m (.tmp 0) (.slice pl L.length cl) ?_
      refine wl_l 25 (.tmp 5) (pt k1 0) (.agg (r.cells).toArray) (run_row Q1 25 0 4 (r.cells) rfl Tryd.underlying25 rfl sz25) ?_
      refine wl_m (.tmp 2) (.int .i64 (s)) ?_
      refine wl_m (.tmp 3) (.int .i64 (n)) ?_
      refine wl_call 49 [(.tmp 42), (.tmp 43), (.tmp 44), (.tmp 45)] _ [.slice pl L.length cl, .agg (r.cells).toArray, .int .i64 (s), .int .i64 (n)] (.agg ((udR p.dp r s n).cells).toArray) rfl rfl (fun _ _ => by kernel_rfl) (pud_n _ (hL.mo M) (show 0 ≤ s by omega) hp hd2 hd4) rfl ?_
      intro u6 hq
      replace Q1 := Q1.mo hq
      replace Q2 := Q2.mo hq
      replace M := M.trans hq
      clear hq
      refine wl_st 25 (.tmp 8) (.tmp 46) k2 0 (((udR p.dp r s n).cells).toArray) _ ((udR p.dp r s n).cells) Q2 rfl rfl rfl rfl rfl sz25 rfl rfl rfl ?_
      intro u7 hS Qn
      replace Q2 := Qn
      clear Qn
      replace Q1 := hS.other _ _ ne_k1_k2 Q1
      replace M := hS.mo _ N_k2 M
      clear hS
      refine wl_m (.const (.int .i64 (0))) (.int .i64 (0)) ?_
      refine w_nil (xn_then (w_ret ?_))
      exact w_ret2 _ _ (.agg ((udR p.dp r s n).cells).toArray) (.int .i64 (0)) rfl ⟨k2, rfl, (run_row Q2 25 0 4 ((udR p.dp r s n).cells) rfl Tryd.underlying25 rfl sz25)⟩ rfl ⟨rq (a := udR p.dp r s n) (kid_v hf0p (by omega) (by omega) hp (by omega) hf4).2.symm (kid_v hf0p (by omega) (by omega) hp (by omega) hf4).1.symm, M⟩
     | false =>
      have hp := hp9 (by omega)
      have hlp := lt_of_get hp
      obtain ⟨bq, oq, hpq, hRq⟩ := D.SL.rw hL.sl hp
      refine w_any 16 [.inl (.int .i64 (s)), .inl (.bool false), .inl (.bool false), .inl (.int .i64 (s)), .inl (.slice pl L.length cl), .inl (.int .i64 ((L.length : Nat) : Int)), .inl (.bool false), .inl (.bool false), .inl (.bool false), .inl (.slice pl L.length cl), .inl (.int .i64 (s)), .inl (pt bq (oq + s.toNat * 5)), .inl (pt bq (oq + s.toNat * 5)), .inl (.int .i64 (p.pr)), .inl (pt k1 0), .inl (.int .i64 (r.s))] [] (by kernel_rfl) (by kernel_rfl) (by kernel_rfl) (by kernel_rfl) rfl (by kernel_rfl) (by kernel_rfl) late_nil ?_ ?_ ?_
      ·exact Ds.none rfl
      ·refine ea_cons ?_ (ea_cons ?_ (ea_cons ?_ (ea_cons ?_ (ea_cons ?_ (ea_cons ?_ (ea_cons ?_ (ea_cons ?_ (ea_cons ?_ (ea_cons ?_ (ea_cons ?_ (ea_cons ?_ (ea_cons ?_ (ea_cons ?_ (ea_cons ?_ (ea_cons ?_ (ea_nil))))))))))))))))
       ·exact og_eq _ rfl (fun f wf hq hd K hK => go_run rfl (wo_mv (.tmp 2) (.int .i64 (s)) (fun _ => rfl) rfl (hK _ (Mo.refl _))))
       ·exact og_eq _ rfl (fun f wf hq hd K hK => go_run rfl (wo_bin (fun x y => do eqGuard .lss 3 (.tmp 18) (.const (.int .i64 (0))) x y; binOp .lss 3 x y) (.tmp 18) (.const (.int .i64 (0))) (.int .i64 (s)) (.int .i64 (0)) (.bool false) (fun _ => rfl) (hd 0 rfl) rfl (lt3 hf1 _ _ _) (hK _ (Mo.refl _))))
       ·exact og_eq _ rfl (fun f wf hq hd K hK => go_run rfl (wo_mv (.tmp 19) (.bool false) (fun _ => rfl) (hd 1 rfl) (hK _ (Mo.refl _))))
       ·exact og_eq _ rfl (fun f wf hq hd K hK => go_run (wnt_g rfl rfl rfl (hd 2 rfl) rfl) (wo_mv (.tmp 2) (.int .i64 (s)) (fun _ => rfl) rfl (hK _ (Mo.refl _))))
       ·exact og_eq _ rfl (fun f wf hq hd K hK => go_run (wnt_g rfl rfl rfl (hd 2 rfl) rfl) (wo_mv (.tmp 0) (.slice pl L.length cl) (fun _ => rfl) rfl (hK _ (Mo.refl _))))
       ·exact og_eq _ rfl (fun f wf hq hd K hK => go_run (wnt_g rfl rfl rfl (hd 2 rfl) rfl) (wo_val (.int .i64 ((L.length : Nat) : Int)) (len22 _ _ _ _ _ (by exact (hd 4 rfl)) _ _ _ _ _ _) (hK _ (Mo.refl _))))
       ·exact og_eq _ rfl (fun f wf hq hd K hK => go_run (wnt_g rfl rfl rfl (hd 2 rfl) rfl) (wo_bin (fun x y => do eqGuard .geq 3 (.tmp 21) (.tmp 23) x y; binOp .geq 3 x y) (.tmp 21) (.tmp 23) (.int .i64 (s)) (.int .i64 ((L.length : Nat) : Int)) (.bool false) (fun _ => rfl) (hd 3 rfl) (hd 5 rfl) (ge3 hf2 _ _ _) (hK _ (Mo.refl _))))
       ·exact og_eq _ rfl (fun f wf hq hd K hK => go_run rfl (wo_pick (.tmp 20) (.const (.bool true)) (.tmp 24) false (.bool false) (fun _ => rfl) (hd 2 rfl) (hd 6 rfl) (hK _ (Mo.refl _))))
       ·exact og_eq _ rfl (fun f wf hq hd K hK => go_run rfl (wo_mv (.tmp 25) (.bool false) (fun _ => rfl) (hd 7 rfl) (hK _ (Mo.refl _))))
       ·exact og_eq _ rfl (fun f wf hq hd K hK => go_run (wnt_g rfl rfl rfl (hd 8 rfl) rfl) (wo_mv (.tmp 0) (.slice pl L.length cl) (fun _ => rfl) rfl (hK _ (Mo.refl _))))
       ·exact og_eq _ rfl (fun f wf hq hd K hK => go_run (wnt_g rfl rfl rfl (hd 8 rfl) rfl) (wo_mv (.tmp 2) (.int .i64 (s)) (fun _ => rfl) rfl (hK _ (Mo.refl _))))
       ·exact og_eq _ rfl (fun f wf hq hd K hK => go_run (wnt_g rfl rfl rfl (hd 8 rfl) rfl) (wo_bin (fun x y => Instr.indexAt 22 x y) (.tmp 27) (.tmp 28) (.slice pl L.length cl) (.int .i64 (s)) (pt bq (oq + s.toNat * 5)) (fun _ => rfl) (hd 9 rfl) (hd 10 rfl) (ix22I (show 0 ≤ s by omega) hpq hlp _) (hK _ (Mo.refl _))))
       ·exact og_eq _ rfl (fun f wf hq hd K hK => go_run (wnt_g rfl rfl rfl (hd 8 rfl) rfl) (wo_un (fun v => Instr.fieldAt 65 v 0) (.tmp 29) (pt bq (oq + s.toNat * 5)) (pt bq (oq + s.toNat * 5)) (fun _ => rfl) (hd 11 rfl) (by kernel_rfl) (hK _ (Mo.refl _))))
       ·exact og_eq _ rfl (fun f wf hq hd K hK => go_run (wnt_g rfl rfl rfl (hd 8 rfl) rfl) (wo_load 3 (.tmp 30) (pt bq (oq + s.toNat * 5)) (.int .i64 (p.pr)) rfl (hd 12 rfl) (D.run_oneR (hRq.mo (M.trans hq)).at' 3 0 rfl Tryd.underlying3 rfl) (hK _ (Mo.refl _))))
       ·exact og_eq _ rfl (fun f wf hq hd K hK => go_run (wnt_g rfl rfl rfl (hd 8 rfl) rfl) (wo_un (fun v => Instr.fieldAt 25 v 0) (.tmp 5) (pt k1 0) (pt k1 0) (fun _ => rfl) rfl (by kernel_rfl) (hK _ (Mo.refl _))))
       ·exact og_eq _ rfl (fun f wf hq hd K hK => have Q1 := Q1.mo hq; go_run (wnt_g rfl rfl rfl (hd 8 rfl) rfl) (wo_load 3 (.tmp 32) (pt k1 0) (.int .i64 (r.s)) rfl (hd 14 rfl) (run_one Q1 3 0 rfl Tryd.underlying3 rfl) (hK _ (Mo.refl _))))
      intro kf4 u4 hq hR hne
      replace Q1 := Q1.mo hq
      replace Q2 := Q2.mo hq
      replace M := M.trans hq
      clear hq hR hne
      refine wl_b .neq 3 (.tmp 31) (.tmp 33) (.int .i64 (p.pr)) (.int .i64 (r.s)) (.bool false) (ne3 hf3 _ _ _) ?_
      refine wl_pick (.tmp 26) (.const (.bool true)) (.tmp 34) false (.bool false) (fun _ => rfl) rfl rfl rfl ?_
      refine wl_m (.tmp 35) (.bool false) ?_
      refine wl_m (.tmp 3) (.int .i64 (n)) ?_
      refine wl_call 31 [(.tmp 37)] _ [.int .i64 (n)] (.bool false) rfl rfl (fun _ _ => by kernel_rfl) (cB hf4 (pis_n n _)) rfl ?_
      intro u5 hq
      replace Q1 := Q1.mo hq
      replace Q2 := Q2.mo hq
      replace M := M.trans hq
      clear hq
      refine wl_un (fun v => Op.unary .not v) (.tmp 38) (.bool false) (.bool true) (fun _ => rfl) rfl (by kernel_rfl) rfl ?_
      refine wl_pick (.tmp 36) (.const (.bool true)) (.tmp 39) false (.bool true) (fun _ => rfl) rfl rfl rfl ?_
      refine w_nil (xn_then (w_condT rfl (w_seq (w_reg ?_))))
      refine wl_build 25 [] [] (.agg #[.int .i64 0, .int .i64 0, .int .i64 0, .int .i64 0]) rfl rfl (by kernel_rfl) rfl ?_
      refine wl_st 25 (.tmp 8) (.tmp 41) k2 0 #[.int .i64 0, .int .i64 0, .int .i64 0, .int .i64 0] _ [.int .i64 0, .int .i64 0, .int .i64 0, .int .i64 0] Q2 rfl rfl rfl rfl rfl sz25 rfl rfl rfl ?_
      intro u6 hS Qn
      replace Q2 := Qn
      clear Qn
      replace Q1 := hS.other _ _ ne_k1_k2 Q1
      replace M := hS.mo _ N_k2 M
      clear hS
      refine wl_m (.const (.int .i64 (150))) (.int .i64 (150)) ?_
      refine w_nil (xn_then (w_ret (xr_then ?_)))
      exact w_ret2 _ _ (.agg #[.int .i64 0, .int .i64 0, .int .i64 0, .int .i64 0]) (.int .i64 (150)) rfl ⟨k2, rfl, (run_row Q2 25 0 4 _ rfl Tryd.underlying25 rfl sz25)⟩ rfl ⟨rq (a := ro0) (kid_n hf0p (fun h => by obtain ⟨h1, h2, h3, h4⟩ := h; rw [prA_at hp] at h3; first | omega | (rw [hf4] at h4; cases h4))).2.symm (kid_n hf0p (fun h => by obtain ⟨h1, h2, h3, h4⟩ := h; rw [prA_at hp] at h3; first | omega | (rw [hf4] at h4; cases h4))).1.symm, M⟩
    | false =>
     have hf3p := of_decide_eq_false hf3
     have hp := hp9 (by omega)
     have hlp := lt_of_get hp
     obtain ⟨bq, oq, hpq, hRq⟩ := D.SL.rw hL.sl hp
     refine w_any 16 [.inl (.int .i64 (s)), .inl (.bool false), .inl (.bool false), .inl (.int .i64 (s)), .inl (.slice pl L.length cl), .inl (.int .i64 ((L.length : Nat) : Int)), .inl (.bool false), .inl (.bool false), .inl (.bool false), .inl (.slice pl L.length cl), .inl (.int .i64 (s)), .inl (pt bq (oq + s.toNat * 5)), .inl (pt bq (oq + s.toNat * 5)), .inl (.int .i64 (p.pr)), .inl (pt k1 0), .inl (.int .i64 (r.s))] [] (by kernel_rfl) (by kernel_rfl) (by kernel_rfl) (by kernel_rfl) rfl (by kernel_rfl) (by kernel_rfl) late_nil ?_ ?_ ?_
     ·exact Ds.none rfl
     ·refine ea_cons ?_ (ea_cons ?_ (ea_cons ?_ (ea_cons ?_ (ea_cons ?_ (ea_cons ?_ (ea_cons ?_ (ea_cons ?_ (ea_cons ?_ (ea_cons ?_ (ea_cons ?_ (ea_cons ?_ (ea_cons ?_ (ea_cons ?_ (ea_cons ?_ (ea_cons ?_ (ea_nil))))))))))))))))
      ·exact og_eq _ rfl (fun f wf hq hd K hK => go_run rfl (wo_mv (.tmp 2) (.int .i64 (s)) (fun _ => rfl) rfl (hK _ (Mo.refl _))))
      ·exact og_eq _ rfl (fun f wf hq hd K hK => go_run rfl (wo_bin (fun x y => do eqGuard .lss 3 (.tmp 18) (.const (.int .i64 (0))) x y; binOp .lss 3 x y) (.tmp 18) (.const (.int .i64 (0))) (.int .i64 (s)) (.int .i64 (0)) (.bool false) (fun _ => rfl) (hd 0 rfl) rfl (lt3 hf1 _ _ _) (hK _ (Mo.refl _))))
      ·exact og_eq _ rfl (fun f wf hq hd K hK => go_run rfl (wo_mv (.tmp 19) (.bool false) (fun _ => rfl) (hd 1 rfl) (hK _ (Mo.refl _))))
      ·exact og_eq _ rfl (fun f wf hq hd K hK => go_run (wnt_g rfl rfl rfl (hd 2 rfl) rfl) (wo_mv (.tmp 2) (.int .i64 (s)) (fun _ => rfl) rfl (hK _ (Mo.refl _))))
      ·exact og_eq _ rfl (fun f wf hq hd K hK => go_run (wnt_g rfl rfl rfl (hd 2 rfl) rfl) (wo_mv (.tmp 0) (.slice pl L.length cl) (fun _ => rfl) rfl (hK _ (Mo.refl _))))
      ·exact og_eq _ rfl (fun f wf hq hd K hK => go_run (wnt_g rfl rfl rfl (hd 2 rfl) rfl) (wo_val (.int .i64 ((L.length : Nat) : Int)) (len22 _ _ _ _ _ (by exact (hd 4 rfl)) _ _ _ _ _ _) (hK _ (Mo.refl _))))
      ·exact og_eq _ rfl (fun f wf hq hd K hK => go_run (wnt_g rfl rfl rfl (hd 2 rfl) rfl) (wo_bin (fun x y => do eqGuard .geq 3 (.tmp 21) (.tmp 23) x y; binOp .geq 3 x y) (.tmp 21) (.tmp 23) (.int .i64 (s)) (.int .i64 ((L.length : Nat) : Int)) (.bool false) (fun _ => rfl) (hd 3 rfl) (hd 5 rfl) (ge3 hf2 _ _ _) (hK _ (Mo.refl _))))
      ·exact og_eq _ rfl (fun f wf hq hd K hK => go_run rfl (wo_pick (.tmp 20) (.const (.bool true)) (.tmp 24) false (.bool false) (fun _ => rfl) (hd 2 rfl) (hd 6 rfl) (hK _ (Mo.refl _))))
      ·exact og_eq _ rfl (fun f wf hq hd K hK => go_run rfl (wo_mv (.tmp 25) (.bool false) (fun _ => rfl) (hd 7 rfl) (hK _ (Mo.refl _))))
      ·exact og_eq _ rfl (fun f wf hq hd K hK => go_run (wnt_g rfl rfl rfl (hd 8 rfl) rfl) (wo_mv (.tmp 0) (.slice pl L.length cl) (fun _ => rfl) rfl (hK _ (Mo.refl _))))
      ·exact og_eq _ rfl (fun f wf hq hd K hK => go_run (wnt_g rfl rfl rfl (hd 8 rfl) rfl) (wo_mv (.tmp 2) (.int .i64 (s)) (fun _ => rfl) rfl (hK _ (Mo.refl _))))
      ·exact og_eq _ rfl (fun f wf hq hd K hK => go_run (wnt_g rfl rfl rfl (hd 8 rfl) rfl) (wo_bin (fun x y => Instr.indexAt 22 x y) (.tmp 27) (.tmp 28) (.slice pl L.length cl) (.int .i64 (s)) (pt bq (oq + s.toNat * 5)) (fun _ => rfl) (hd 9 rfl) (hd 10 rfl) (ix22I (show 0 ≤ s by omega) hpq hlp _) (hK _ (Mo.refl _))))
      ·exact og_eq _ rfl (fun f wf hq hd K hK => go_run (wnt_g rfl rfl rfl (hd 8 rfl) rfl) (wo_un (fun v => Instr.fieldAt 65 v 0) (.tmp 29) (pt bq (oq + s.toNat * 5)) (pt bq (oq + s.toNat * 5)) (fun _ => rfl) (hd 11 rfl) (by kernel_rfl) (hK _ (Mo.refl _))))
      ·exact og_eq _ rfl (fun f wf hq hd K hK => go_run (wnt_g rfl rfl rfl (hd 8 rfl) rfl) (wo_load 3 (.tmp 30) (pt bq (oq + s.toNat * 5)) (.int .i64 (p.pr)) rfl (hd 12 rfl) (D.run_oneR (hRq.mo (M.trans hq)).at' 3 0 rfl Tryd.underlying3 rfl) (hK _ (Mo.refl _))))
      ·exact og_eq _ rfl (fun f wf hq hd K hK => go_run (wnt_g rfl rfl rfl (hd 8 rfl) rfl) (wo_un (fun v => Instr.fieldAt 25 v 0) (.tmp 5) (pt k1 0) (pt k1 0) (fun _ => rfl) rfl (by kernel_rfl) (hK _ (Mo.refl _))))
      ·exact og_eq _ rfl (fun f wf hq hd K hK => have Q1 := Q1.mo hq; go_run (wnt_g rfl rfl rfl (hd 8 rfl) rfl) (wo_load 3 (.tmp 32) (pt k1 0) (.int .i64 (r.s)) rfl (hd 14 rfl) (run_one Q1 3 0 rfl Tryd.underlying3 rfl) (hK _ (Mo.refl _))))
     intro kf4 u4 hq hR hne
     replace Q1 := Q1.mo hq
     replace Q2 := Q2.mo hq
     replace M := M.trans hq
     clear hq hR hne
     refine wl_b .neq 3 (.tmp 31) (.tmp 33) (.int .i64 (p.pr)) (.int .i64 (r.s)) (.bool true) (ne3 hf3 _ _ _) ?_
     refine wl_pick (.tmp 26) (.const (.bool true)) (.tmp 34) false (.bool true) (fun _ => rfl) rfl rfl rfl ?_
     refine wl_m (.tmp 35) (.bool true) ?_
     refine wl_skip rfl (wl_skip rfl (wl_skip rfl ?_))
     refine wl_pick (.tmp 36) (.const (.bool true)) (.tmp 39) true (.bool true) (fun _ => rfl) rfl rfl rfl ?_
     refine w_nil (xn_then (w_condT rfl (w_seq (w_reg ?_))))
     refine wl_build 25 [] [] (.agg #[.int .i64 0, .int .i64 0, .int .i64 0, .int .i64 0]) rfl rfl (by kernel_rfl) rfl ?_
     refine wl_st 25 (.tmp 8) (.tmp 41) k2 0 #[.int .i64 0, .int .i64 0, .int .i64 0, .int .i64 0] _ [.int .i64 0, .int .i64 0, .int .i64 0, .int .i64 0] Q2 rfl rfl rfl rfl rfl sz25 rfl rfl rfl ?_
     intro u5 hS Qn
     replace Q2 := Qn
     clear Qn
     replace Q1 := hS.other _ _ ne_k1_k2 Q1
     replace M := hS.mo _ N_k2 M
     clear hS
     refine wl_m (.const (.int .i64 (150))) (.int .i64 (150)) ?_
     refine w_nil (xn_then (w_ret (xr_then ?_)))
     exact w_ret2 _ _ (.agg #[.int .i64 0, .int .i64 0, .int .i64 0, .int .i64 0]) (.int .i64 (150)) rfl ⟨k2, rfl, (run_row Q2 25 0 4 _ rfl Tryd.underlying25 rfl sz25)⟩ rfl ⟨rq (a := ro0) (kid_n hf0p (fun h => by obtain ⟨h1, h2, h3, h4⟩ := h; rw [prA_at hp] at h3; first | omega)).2.symm (kid_n hf0p (fun h => by obtain ⟨h1, h2, h3, h4⟩ := h; rw [prA_at hp] at h3; first | omega)).1.symm, M⟩
 | false =>
  have hf0p := of_decide_eq_false hf0
  refine wl_b .neq 31 (.tmp 14) (.const (.int .i64 (0))) (.int .i64 (ckR L r)) (.int .i64 (0)) (.bool true) (ne34 hf0 _ _ _) ?_
  refine w_nil (xn_then (w_condT rfl (w_seq (w_reg ?_))))
  refine wl_build 25 [] [] (.agg #[.int .i64 0, .int .i64 0, .int .i64 0, .int .i64 0]) rfl rfl (by kernel_rfl) rfl ?_
  refine wl_m (.tmp 10) (.int .i64 (ckR L r)) ?_
  refine wl_st 25 (.tmp 8) (.tmp 16) k2 0 #[.int .i64 0, .int .i64 0, .int .i64 0, .int .i64 0] _ [.int .i64 0, .int .i64 0, .int .i64 0, .int .i64 0] Q2 rfl rfl rfl rfl rfl sz25 rfl rfl rfl ?_
  intro u4 hS Qn
  replace Q2 := Qn
  clear Qn
  replace Q1 := hS.other _ _ ne_k1_k2 Q1
  replace M := hS.mo _ N_k2 M
  clear hS
  refine wl_m (.tmp 17) (.int .i64 (ckR L r)) ?_
  refine w_nil (xn_then (w_ret (xr_then ?_)))
  exact w_ret2 _ _ (.agg #[.int .i64 0, .int .i64 0, .int .i64 0, .int .i64 0]) (.int .i64 (ckR L r)) rfl ⟨k2, rfl, (run_row Q2 25 0 4 _ rfl Tryd.underlying25 rfl sz25)⟩ rfl ⟨rq (a := ro0) (kid_b hf0p).2.symm (kid_b hf0p).1.symm, M⟩
theorem par_ck' {l : List S5} {r : Ro} (h : ckR l r = 0) (h0 : ¬ r.s = 0) : ckR l (parU l r) = 0 := by
 obtain ⟨hsn, a0, a1, hi⟩ := ck_0 h
 obtain ⟨y, hy⟩ := get_of_lt (show r.s.toNat < l.length by omega)
 obtain ⟨p, hp, p0, p1, hd, hd2, hd4⟩ := pr_at hsn hy (by omega)
 rw [dpA_at hy] at hi
 have e : parU l r = ⟨y.pr, (setR y.dp r 0).a, (setR y.dp r 0).b, (setR y.dp r 0).c⟩ := by unfold parU; rw [dpA_at hy, prA_at hy]
 have hlp := lt_of_get hp
 rw [e]
 refine ck_yes (y := p) hsn p0 (by show y.pr < _; omega) hp ?_
 have hpd : p.dp = y.dp - 1 := by omega
 unfold ids at hi ⊢
 simp only [Bool.and_eq_true] at hi ⊢
 obtain ⟨i0, i1, i2⟩ := hi
 have hc : y.dp = 2 ∨ y.dp = 3 ∨ y.dp = 4 := by omega
 rcases hc with q | q | q <;> (rw [hpd, q]; rw [q] at i0 i1 i2; simp [idu, setR] at i0 i1 i2 ⊢) <;> simp_all
theorem ar_next {l : List S5} {sec : Int} {r : Ro} (h : ¬ r.s = sec) : (bif parO l r then (parR l r).s.toNat + 1 else 0) < r.s.toNat + 1 ∧ (bif parO l r then arO l sec (parR l r) else none) = arO l sec r := by
 cases e : parO l r with
 | true =>
  have q := par_t e
  rw [par_u e, ar_up h e]
  exact ⟨by show (parU l r).s.toNat + 1 < _; omega, rfl⟩
 | false => rw [ar_no h e]; exact ⟨Nat.succ_pos _, rfl⟩
theorem ar_ck {l : List S5} {sec : Int} : ∀ (n : Nat) (r x : Ro), r.s.toNat ≤ n → ckR l r = 0 → arO l sec r = some x → ckR l x = 0 := by
 intro n
 induction n with
 | zero =>
  intro r x hn hc h
  by_cases e : r.s = sec
  ·rw [ar_hit e] at h; cases h; exact hc
  ·cases q : parO l r with
   | true => have := par_t q; omega
   | false => rw [ar_no e q] at h; cases h
 | succ n ih =>
  intro r x hn hc h
  by_cases e : r.s = sec
  ·rw [ar_hit e] at h; cases h; exact hc
  ·cases q : parO l r with
   | true =>
    have p := par_t q
    rw [ar_up e q] at h
    exact ih _ _ (by omega) (par_ck' hc p.2.1) h
   | false => rw [ar_no e q] at h; cases h
theorem wit_p {l : List S5} {r o : Ro} (h : ckR l r = 0) : witB l r o = ((arO l o.s r).isSome && sR ((arO l o.s r).getD ro0) o) := by
 unfold witB aroB aroR
 rw [if_pos h, decide_eq_true h]
 cases e : arO l o.s r with
 | none => rfl
 | some x =>
  show (true && (true && (decide (ckR l o = 0) && sR x o))) = (true && sR x o)
  cases q : sR x o with
  | false => simp
  | true =>
   rw [sR_eq] at q
   rw [← q, ar_ck _ _ _ (Nat.le_refl _) h e]; rfl
theorem paro_n {L : List S5} {pl : Option Addr} {cl : Nat} {r : Ro} {sec : Int} (w : World) (hL : LL w pl L) (hcl : L.length ≤ cl) : Calls Tryd.prog 50 #[.slice pl L.length cl, r.v, .int .i64 sec] w fun e9 w' => e9 = .returned (.tuple #[((arO L sec r).getD ro0).v, .bool (arO L sec r).isSome]) ∧ Mo w w' := by
 refine w_enter 22 Tryd.func50 Tryd.ntmps50 rfl rfl ?_
 have M : Mo w w := Mo.refl _
 refine w_seq (w_reg ?_)
 refine wl_box 25 (.tmp 1) _ (((r.cells).toArray)) rfl rfl (fun _ => by kernel_rfl) rfl ?_
 intro k1 u1 hk hz hq Q1
 have N_k1 : w.heap.size ≤ k1 := by have := M.size; omega
 replace M := M.trans hq
 clear hk hz hq
 refine wl_alloc 25 #[.int .i64 0, .int .i64 0, .int .i64 0, .int .i64 0] rfl (fun _ => by kernel_rfl) rfl ?_
 intro k2 u2 hk hz hq Q2
 have ne_k1_k2 : k1 ≠ k2 := by have := Q1.lt; omega
 have N_k2 : w.heap.size ≤ k2 := by have := M.size; omega
 replace Q1 := Q1.mo hq
 replace M := M.trans hq
 clear hk hz hq
 refine wl_m (.const (.bool false)) (.bool false) ?_
 refine w_nil (xn_then (w_seq (w_seq (w_reg ?_))))
 refine wl_m (.const (.bool true)) (.bool true) ?_
 refine w_nil (xn_then (w_block ?_))
 refine w_loop (fun m l9 w1 => ∃ (r1 : Ro) (b1 : Bool), m = (bif b1 then r1.s.toNat + 1 else 0) ∧ look l9 0 = .slice pl L.length cl ∧ look l9 2 = .int .i64 sec ∧ look l9 4 = pt k1 0 ∧ look l9 6 = pt k2 0 ∧ look l9 8 = .bool b1 ∧ At w1 k1 r1.cells ∧ At w1 k2 [.int .i64 0, .int .i64 0, .int .i64 0, .int .i64 0] ∧ (bif b1 then arO L sec r1 else none) = arO L sec r ∧ Mo w w1) _ ⟨r, true, rfl, rfl, rfl, rfl, rfl, rfl, Q1, Q2, rfl, M⟩ ?_
 clear M Q1 Q2
 rintro m l9 wl ⟨r1, b1, rfl, e0, e2, e4, e6, e8, Q1, Q2, har, M⟩
 cases b1 with
 | true =>
  have har' : arO L sec r1 = arO L sec r := har
  refine w_seq (w_seq (w_reg ?_))
  refine wl_mv (.tmp 8) (.bool true) (fun _ => rfl) e8 rfl ?_
  refine w_nil (xn_then (w_condT rfl (w_skip (xn_then (w_seq (w_block (w_seq (w_reg ?_))))))))
  refine wl_un (fun v => Instr.fieldAt 25 v 0) (.tmp 4) (pt k1 0) (pt k1 0) (fun _ => rfl) e4 (by kernel_rfl) rfl ?_
  refine wl_l 3 (.tmp 16) (pt k1 0) (.int .i64 (r1.s)) (run_one Q1 3 0 rfl Tryd.underlying3 rfl) ?_
  refine wl_mv (.tmp 2) (.int .i64 (sec)) (fun _ => rfl) e2 rfl ?_
  cases hf30 : decide (r1.s = sec) with
  | true =>
   have hf30p := of_decide_eq_true hf30
   refine wl_b .eql 3 (.tmp 17) (.tmp 18) (.int .i64 (r1.s)) (.int .i64 (sec)) (.bool true) (eq3 hf30 _ _ _) ?_
   refine w_nil (xn_then (w_condT rfl (w_seq (w_reg ?_))))
   refine wl_load 25 (.tmp 4) (pt k1 0) (.agg (r1.cells).toArray) rfl e4 (run_row Q1 25 0 4 (r1.cells) rfl Tryd.underlying25 rfl sz25) rfl ?_
   refine wl_st 25 (.tmp 6) (.tmp 20) k2 0 ((r1.cells).toArray) _ (r1.cells) Q2 rfl rfl e6 rfl rfl sz25 rfl rfl rfl ?_
   intro u41 hS Qn
   replace Q2 := Qn
   clear Qn
   replace Q1 := hS.other _ _ ne_k1_k2 Q1
   replace M := hS.mo _ N_k2 M
   clear hS
   refine wl_m (.const (.bool true)) (.bool true) ?_
   refine w_nil (xn_then (w_ret (xr_blk (xr_then (xr_then (xr_blk (xr_then ?_)))))))
   exact w_ret2 _ _ (.agg (r1.cells).toArray) (.bool true) rfl ⟨k2, e6, (run_row Q2 25 0 4 (r1.cells) rfl Tryd.underlying25 rfl sz25)⟩ rfl ⟨rp (a := r1) (by rw [← har', ar_hit hf30p]; rfl) (by rw [← har', ar_hit hf30p]; rfl), M⟩
  | false =>
   have hf30p := of_decide_eq_false hf30
   refine wl_b .eql 3 (.tmp 17) (.tmp 18) (.int .i64 (r1.s)) (.int .i64 (sec)) (.bool false) (eq3 hf30 _ _ _) ?_
   refine w_nil (xn_then (w_condF rfl (w_skip (xn_blk (xn_then (w_reg ?_))))))
   refine wl_mv (.tmp 0) (.slice pl L.length cl) (fun _ => rfl) e0 rfl ?_
   refine wl_load 25 (.tmp 4) (pt k1 0) (.agg (r1.cells).toArray) rfl e4 (run_row Q1 25 0 4 (r1.cells) rfl Tryd.underlying25 rfl sz25) rfl ?_
   refine wl_call 7 [(.tmp 11), (.tmp 12)] _ [.slice pl L.length cl, .agg (r1.cells).toArray] (.tuple #[.agg ((parR L r1).cells).toArray, .bool ((parO L r1))]) rfl rfl (fun _ _ => by kernel_rfl) (ppar_n _ (hL.mo M) hcl) rfl ?_
   intro u41 hq
   replace Q1 := Q1.mo hq
   replace Q2 := Q2.mo hq
   replace M := M.trans hq
   clear hq
   refine wl_m (.tmp 13) (.tuple #[.agg ((parR L r1).cells).toArray, .bool ((parO L r1))]) ?_
   refine wl_un (fun v => Instr.extract v 0) (.tmp 10) (.tuple #[.agg ((parR L r1).cells).toArray, .bool ((parO L r1))]) (.agg ((parR L r1).cells).toArray) (fun _ => rfl) rfl (by kernel_rfl) rfl ?_
   refine wl_un (fun v => Instr.extract v 1) (.tmp 10) (.tuple #[.agg ((parR L r1).cells).toArray, .bool ((parO L r1))]) (.bool ((parO L r1))) (fun _ => rfl) rfl (by kernel_rfl) rfl ?_
   refine wl_st 25 (.tmp 4) (.tmp 14) k1 0 (((parR L r1).cells).toArray) (r1.cells) ((parR L r1).cells) Q1 rfl rfl e4 rfl rfl sz25 rfl rfl rfl ?_
   intro u42 hS Qn
   replace Q1 := Qn
   clear Qn
   replace Q2 := hS.other _ _ ne_k1_k2.symm Q2
   replace M := hS.mo _ N_k1 M
   clear hS
   refine wl_m (.tmp 15) (.bool ((parO L r1))) ?_
   refine w_nil ?_
   have hn := ar_next (l := L) hf30p
   exact xn_loop (bif parO L r1 then (parR L r1).s.toNat + 1 else 0) hn.1 ⟨parR L r1, parO L r1, rfl, e0, e2, e4, e6, rfl, Q1, Q2, hn.2.trans har', M⟩
 | false =>
  have har' : none = arO L sec r := har
  refine w_seq (w_seq (w_reg ?_))
  refine wl_mv (.tmp 8) (.bool false) (fun _ => rfl) e8 rfl ?_
  refine w_nil (xn_then (w_condF rfl (w_exit (xx_then (xx_then (xx_blk (xn_then (w_seq (w_reg ?_)))))))))
  refine wl_build 25 [] [] (.agg #[.int .i64 0, .int .i64 0, .int .i64 0, .int .i64 0]) rfl rfl (by kernel_rfl) rfl ?_
  refine wl_st 25 (.tmp 6) (.tmp 21) k2 0 #[.int .i64 0, .int .i64 0, .int .i64 0, .int .i64 0] _ [.int .i64 0, .int .i64 0, .int .i64 0, .int .i64 0] Q2 rfl rfl e6 rfl rfl sz25 rfl rfl rfl ?_
  intro u41 hS Qn
  replace Q2 := Qn
  clear Qn
  replace Q1 := hS.other _ _ ne_k1_k2 Q1
  replace M := hS.mo _ N_k2 M
  clear hS
  refine wl_m (.const (.bool false)) (.bool false) ?_
  refine w_nil (xn_then (w_ret ?_))
  exact w_ret2 _ _ (.agg #[.int .i64 0, .int .i64 0, .int .i64 0, .int .i64 0]) (.bool false) rfl ⟨k2, e6, (run_row Q2 25 0 4 _ rfl Tryd.underlying25 rfl sz25)⟩ rfl ⟨rp (a := ro0) (by rw [← har']; rfl) (by rw [← har']; rfl), M⟩
theorem pwit_n {L : List S5} {pl : Option Addr} {cl : Nat} {r o : Ro} (w : World) (hL : LL w pl L) (hcl : L.length ≤ cl) : Calls Tryd.prog 28 #[.slice pl L.length cl, r.v, o.v] w fun e9 w' => e9 = .returned (.bool (witB L r o)) ∧ Mo w w' := by
 refine w_enter 27 Tryd.func28 Tryd.ntmps28 rfl rfl ?_
 have M : Mo w w := Mo.refl _
 refine w_seq (w_reg ?_)
 refine wl_box 25 (.tmp 1) _ (((r.cells).toArray)) rfl rfl (fun _ => by kernel_rfl) rfl ?_
 intro k1 u1 hk hz hq Q1
 have N_k1 : w.heap.size ≤ k1 := by have := M.size; omega
 replace M := M.trans hq
 clear hk hz hq
 refine wl_box 25 (.tmp 2) _ (((o.cells).toArray)) rfl rfl (fun _ => by kernel_rfl) rfl ?_
 intro k2 u2 hk hz hq Q2
 have ne_k1_k2 : k1 ≠ k2 := by have := Q1.lt; omega
 have N_k2 : w.heap.size ≤ k2 := by have := M.size; omega
 replace Q1 := Q1.mo hq
 replace M := M.trans hq
 clear hk hz hq
 refine wl_m (.const (.bool false)) (.bool false) ?_
 refine w_nil (xn_then (w_seq (w_seq (w_reg ?_))))
 refine wl_m (.tmp 0) (.slice pl L.length cl) ?_
 refine wl_l 25 (.tmp 4) (pt k1 0) (.agg (r.cells).toArray) (run_row Q1 25 0 4 (r.cells) rfl Tryd.underlying25 rfl sz25) ?_
 refine wl_call 10 [(.tmp 9), (.tmp 10)] _ [.slice pl L.length cl, .agg (r.cells).toArray] (.int .i64 (ckR L r)) rfl rfl (fun _ _ => by kernel_rfl) (pck_n _ (hL.mo M) hcl) rfl ?_
 intro u3 hq
 replace Q1 := Q1.mo hq
 replace Q2 := Q2.mo hq
 replace M := M.trans hq
 clear hq
 cases hf0 : decide (ckR L r = 0) with
 | true =>
  have hf0p := of_decide_eq_true hf0
  refine wl_b .neq 31 (.tmp 11) (.const (.int .i64 (0))) (.int .i64 (ckR L r)) (.int .i64 (0)) (.bool false) (ne34 hf0 _ _ _) ?_
  refine w_nil (xn_then (w_condF rfl (w_skip (xn_then (w_seq (w_reg ?_))))))
  refine wl_m (.tmp 0) (.slice pl L.length cl) ?_
  refine wl_l 25 (.tmp 4) (pt k1 0) (.agg (r.cells).toArray) (run_row Q1 25 0 4 (r.cells) rfl Tryd.underlying25 rfl sz25) ?_
  refine wl_f 25 0 (.tmp 5) (pt k2 0) (pt k2 0) ?_
  refine wl_l 3 (.tmp 16) (pt k2 0) (.int .i64 (o.s)) (run_one Q2 3 0 rfl Tryd.underlying3 rfl) ?_
  cases hf1 : (arO L o.s r).isSome with
  | true =>
   refine wl_call 50 [(.tmp 14), (.tmp 15), (.tmp 17)] _ [.slice pl L.length cl, .agg (r.cells).toArray, .int .i64 (o.s)] (.tuple #[.agg (((arO L o.s r).getD ro0).cells).toArray, .bool true]) rfl rfl (fun _ _ => by kernel_rfl) (cR (by rw [hf1]) (paro_n _ (hL.mo M) hcl)) rfl ?_
   intro u4 hq
   replace Q1 := Q1.mo hq
   replace Q2 := Q2.mo hq
   replace M := M.trans hq
   clear hq
   refine wl_m (.tmp 18) (.tuple #[.agg (((arO L o.s r).getD ro0).cells).toArray, .bool true]) ?_
   refine wl_un (fun v => Instr.extract v 0) (.tmp 13) (.tuple #[.agg (((arO L o.s r).getD ro0).cells).toArray, .bool true]) (.agg (((arO L o.s r).getD ro0).cells).toArray) (fun _ => rfl) rfl (by kernel_rfl) rfl ?_
   refine wl_un (fun v => Instr.extract v 1) (.tmp 13) (.tuple #[.agg (((arO L o.s r).getD ro0).cells).toArray, .bool true]) (.bool true) (fun _ => rfl) rfl (by kernel_rfl) rfl ?_
   refine wl_alloc 25 #[.int .i64 0, .int .i64 0, .int .i64 0, .int .i64 0] rfl (fun _ => by kernel_rfl) rfl ?_
   intro k3 u5 hk hz hq Q3
   have ne_k1_k3 : k1 ≠ k3 := by have := Q1.lt; omega
   have ne_k2_k3 : k2 ≠ k3 := by have := Q2.lt; omega
   have N_k3 : w.heap.size ≤ k3 := by have := M.size; omega
   replace Q1 := Q1.mo hq
   replace Q2 := Q2.mo hq
   replace M := M.trans hq
   clear hk hz hq
   refine wl_st 25 (.tmp 7) (.tmp 19) k3 0 ((((arO L o.s r).getD ro0).cells).toArray) _ (((arO L o.s r).getD ro0).cells) Q3 rfl rfl rfl rfl rfl sz25 rfl rfl rfl ?_
   intro u6 hS Qn
   replace Q3 := Qn
   clear Qn
   replace Q1 := hS.other _ _ ne_k1_k3 Q1
   replace Q2 := hS.other _ _ ne_k2_k3 Q2
   replace M := hS.mo _ N_k3 M
   clear hS
   refine wl_m (.tmp 20) (.bool true) ?_
   refine w_nil (xn_then (w_seq (w_reg ?_)))
   refine wl_m (.tmp 8) (.bool true) ?_
   refine wl_m (.tmp 21) (.bool true) ?_
   refine wl_l 25 (.tmp 7) (pt k3 0) (.agg (((arO L o.s r).getD ro0).cells).toArray) (run_row Q3 25 0 4 (((arO L o.s r).getD ro0).cells) rfl Tryd.underlying25 rfl sz25) ?_
   refine wl_l 25 (.tmp 5) (pt k2 0) (.agg (o.cells).toArray) (run_row Q2 25 0 4 (o.cells) rfl Tryd.underlying25 rfl sz25) ?_
   cases hf2 : sR ((arO L o.s r).getD ro0) o with
   | true =>
    refine wl_b .eql 25 (.tmp 23) (.tmp 24) (.agg (((arO L o.s r).getD ro0).cells).toArray) (.agg (o.cells).toArray) (.bool true) (eqR hf2 _ _ _) ?_
    refine wl_pick (.tmp 22) (.tmp 25) (.const (.bool false)) true (.bool true) (fun _ => rfl) rfl rfl rfl ?_
    refine wl_m (.tmp 26) (.bool true) ?_
    refine w_nil (xn_then (w_ret ?_))
    exact w_ret1 _ (.bool true) rfl rfl ⟨congrArg (fun v => Ending.returned (.bool v)) (by rw [wit_p hf0p]; simp [hf1, hf2]), M⟩
   | false =>
    refine wl_b .eql 25 (.tmp 23) (.tmp 24) (.agg (((arO L o.s r).getD ro0).cells).toArray) (.agg (o.cells).toArray) (.bool false) (eqR hf2 _ _ _) ?_
    refine wl_pick (.tmp 22) (.tmp 25) (.const (.bool false)) true (.bool false) (fun _ => rfl) rfl rfl rfl ?_
    refine wl_m (.tmp 26) (.bool false) ?_
    refine w_nil (xn_then (w_ret ?_))
    exact w_ret1 _ (.bool false) rfl rfl ⟨congrArg (fun v => Ending.returned (.bool v)) (by rw [wit_p hf0p]; simp [hf1, hf2]), M⟩
  | false =>
   refine wl_call 50 [(.tmp 14), (.tmp 15), (.tmp 17)] _ [.slice pl L.length cl, .agg (r.cells).toArray, .int .i64 (o.s)] (.tuple #[.agg (((arO L o.s r).getD ro0).cells).toArray, .bool false]) rfl rfl (fun _ _ => by kernel_rfl) (cR (by rw [hf1]) (paro_n _ (hL.mo M) hcl)) rfl ?_
   intro u4 hq
   replace Q1 := Q1.mo hq
   replace Q2 := Q2.mo hq
   replace M := M.trans hq
   clear hq
   refine wl_m (.tmp 18) (.tuple #[.agg (((arO L o.s r).getD ro0).cells).toArray, .bool false]) ?_
   refine wl_un (fun v => Instr.extract v 0) (.tmp 13) (.tuple #[.agg (((arO L o.s r).getD ro0).cells).toArray, .bool false]) (.agg (((arO L o.s r).getD ro0).cells).toArray) (fun _ => rfl) rfl (by kernel_rfl) rfl ?_
   refine wl_un (fun v => Instr.extract v 1) (.tmp 13) (.tuple #[.agg (((arO L o.s r).getD ro0).cells).toArray, .bool false]) (.bool false) (fun _ => rfl) rfl (by kernel_rfl) rfl ?_
   refine wl_alloc 25 #[.int .i64 0, .int .i64 0, .int .i64 0, .int .i64 0] rfl (fun _ => by kernel_rfl) rfl ?_
   intro k3 u5 hk hz hq Q3
   have ne_k1_k3 : k1 ≠ k3 := by have := Q1.lt; omega
   have ne_k2_k3 : k2 ≠ k3 := by have := Q2.lt; omega
   have N_k3 : w.heap.size ≤ k3 := by have := M.size; omega
   replace Q1 := Q1.mo hq
   replace Q2 := Q2.mo hq
   replace M := M.trans hq
   clear hk hz hq
   refine wl_st 25 (.tmp 7) (.tmp 19) k3 0 ((((arO L o.s r).getD ro0).cells).toArray) _ (((arO L o.s r).getD ro0).cells) Q3 rfl rfl rfl rfl rfl sz25 rfl rfl rfl ?_
   intro u6 hS Qn
   replace Q3 := Qn
   clear Qn
   replace Q1 := hS.other _ _ ne_k1_k3 Q1
   replace Q2 := hS.other _ _ ne_k2_k3 Q2
   replace M := hS.mo _ N_k3 M
   clear hS
   refine wl_m (.tmp 20) (.bool false) ?_
   refine w_nil (xn_then (w_seq (w_reg ?_)))
   refine wl_m (.tmp 8) (.bool false) ?_
   refine wl_m (.tmp 21) (.bool false) ?_
   refine wl_skip rfl (wl_skip rfl (wl_skip rfl ?_))
   refine wl_pick (.tmp 22) (.tmp 25) (.const (.bool false)) false (.bool false) (fun _ => rfl) rfl rfl rfl ?_
   refine wl_m (.tmp 26) (.bool false) ?_
   refine w_nil (xn_then (w_ret ?_))
   exact w_ret1 _ (.bool false) rfl rfl ⟨congrArg (fun v => Ending.returned (.bool v)) (by rw [wit_p hf0p]; simp [hf1]), M⟩
 | false =>
  have hf0p := of_decide_eq_false hf0
  refine wl_b .neq 31 (.tmp 11) (.const (.int .i64 (0))) (.int .i64 (ckR L r)) (.int .i64 (0)) (.bool true) (ne34 hf0 _ _ _) ?_
  refine w_nil (xn_then (w_condT rfl (w_seq (w_reg ?_))))
  refine wl_m (.const (.bool false)) (.bool false) ?_
  refine w_nil (xn_then (w_ret (xr_then ?_)))
  exact w_ret1 _ (.bool false) rfl rfl ⟨congrArg (fun v => Ending.returned (.bool v)) (by simp [witB, aroB, hf0p]), M⟩
end Go.Proofs.YtnffhcjmpjajlaaDoor
namespace Go.Proofs.YtnffhcjmpjajlaaDoor.V
open Go.RowKit
/-! Frames as lists of what was put where, the last first. -/
/-! The laws of the steps. -/
section steps
variable {P : Program} {o : Oper} {n : Nat} {l : List (Nat × Value)} {w : World} {ops : Array Oper} {rest : List Oper} {Q : Exit → Act → World → Prop} {K : Act → World → Prop}
theorem li1 {a b : Value} (h : a = b) : [a] = [b] := by rw [h]
theorem li4 {a b c d e f g i : Value} (h : a = b) (k : c = d) (m : e = f) (p : g = i) : [a, c, e, g] = [b, d, f, i] := by rw [h, k, m, p]
end steps
end Go.Proofs.YtnffhcjmpjajlaaDoor.V

namespace Go.Proofs.YtnffhcjmpjajlaaDoor.V
open Go.RowKit
section
variable {P : Program} {ops : List Oper} {Q : Exit → Act → World → Prop} {n : Nat} {l : List (Nat × Value)}
variable {o : Oper} {w : World} {K : Act → World → Prop}
theorem lp3 {i j q : Nat} {a b c d e f : Value} (h : a = b) (k : c = d) (m : e = f) : [(i, a), (j, c), (q, e)] = [(i, b), (j, d), (q, f)] := by rw [h, k, m]
end
end Go.Proofs.YtnffhcjmpjajlaaDoor.V

namespace Go.Proofs.YtnffhcjmpjajlaaDoor.V
open Go.RowKit
section
variable {P : Program} {o : Oper} {n : Nat} {l : List (Nat × Value)} {w : World} {ops : Array Oper} {rest : List Oper} {Q : Exit → Act → World → Prop} {K : Act → World → Prop}
theorem wo_alloc (ty : TypeId) (zs : Array Value) (ho : o.op = .alloc ty) (h : ∀ w, (Instr.alloc ty true (.tuple #[])).run P w = .ok (pt w.heap.size 0) (w.alloc (.cells zs ty))) (hk : ∀ k w', w.heap.size = k → w'.heap.size = k + 1 → Mw w w' → At w' k zs.toList → K (fr n (ext l o.dst (pt k 0))) w') : WO P o n l w K Q := ⟨o_alloc ty zs ho h (fun k w' a b c d => (hk k w' a b c d))⟩
theorem og_new {ol : List Oper} {m : Nat} {W : World} {sp : List Sp} {i : Nat} (zs : List Value) (hs : spAt sp i = .inr zs)
  (h : ∀ f w, Mw W w → (∀ j, depb o j = true → spDen W.heap.size (spAt sp j) (f j) w) → ∀ K : Act → World → Prop, (∀ k w', w.heap.size = k → w'.heap.size = k + 1 → Mw w w' → At w' k zs → K (fr n (ext (asg f 0 (ol.take m) l) o.dst (pt k 0))) w') → Go1 P ol Q n (asg f 0 (ol.take m) l) w K o) : OgW P ol Q n l m W sp i o :=
 ⟨fun f w hm hd K hK => h f w hm hd K (by rw [hs] at hK; exact hK)⟩
theorem la_un (F : Value → Sem Value) (x : Operand) (p v : Value) (ho : ∀ ρ, execOp ρ o = (do pure (.value (← F (ρ x))))) (hx : evl n l x = p) (h : ∀ w, (F p).run P w = .ok v w) : ∀ w, (execOp (evl n l) o).run P w = .ok (.value v) w := fun w => by
 rw [ho, hx]; simp [h]
theorem late_cons {ol : List Oper} {m : Nat} {sp : List Sp} {j : Nat} {r : List Nat} (h : LateO P ol Q n l m sp j) (k : ∀ i, i ∈ r → LateO P ol Q n l m sp i) : ∀ i, i ∈ j :: r → LateO P ol Q n l m sp i := fun i hi => by
 rcases List.mem_cons.1 hi with rfl | hi
 ·exact h
 ·exact k i hi
end
end Go.Proofs.YtnffhcjmpjajlaaDoor.V

namespace Go.Proofs.YtnffhcjmpjajlaaDoor
open Go.ChangeShapes Go.WideShapes Go.ChangeAt Go.RowKit Go.ChangeMaps D
set_option maxRecDepth 100000
theorem Tryd.cl2 : Tryd.prog.cellsOf 2 = 1 := by kernel_rfl
theorem Tryd.cl3 : Tryd.prog.cellsOf 3 = 1 := by kernel_rfl
theorem Tryd.cl23 : Tryd.prog.cellsOf 23 = 3 := by kernel_rfl
theorem Tryd.cl25 : Tryd.prog.cellsOf 25 = 4 := by kernel_rfl
theorem Tryd.cl27 : Tryd.prog.cellsOf 27 = 5 := by kernel_rfl
section
variable {H : Type} {enc : TypeId × Value → H} {W : World} {sp : Nat → Bool} {fuel : Nat} {cs : List Value} {x : DataW H × List MemPlace}
theorem cut_ids (h : DataW.trod enc Tryd.prog W 0 sp true fuel 23 cs = some x) : ∃ a b c : Int, cs = [.int .i64 a, .int .i64 b, .int .i64 c] := by
 obtain ⟨xs, m, rfl, rfl, hlen, hn, hi⟩ := DataW.trod_array Tryd.underlying23 h
 rw [Tryd.cl23] at hlen
 obtain ⟨c0, c1, c2, rfl⟩ : ∃ c0 c1 c2, cs = [c0, c1, c2] := by
  match cs, hlen with
  | [a, b, c], _ => exact ⟨a, b, c, rfl⟩
 obtain ⟨y0, y1, y2, rfl⟩ : ∃ y0 y1 y2, xs = [y0, y1, y2] := by
  match xs, hn with
  | [a, b, c], _ => exact ⟨a, b, c, rfl⟩
 have i0 := hi 0 (by decide)
 have i1 := hi 1 (by decide)
 have i2 := hi 2 (by decide)
 simp only [Tryd.cl2] at i0 i1 i2
 simp at i0 i1 i2
 obtain ⟨x0, e0, rfl, _⟩ := DataW.trod_int Tryd.underlying2 i0
 obtain ⟨x1, e1, rfl, _⟩ := DataW.trod_int Tryd.underlying2 i1
 obtain ⟨x2, e2, rfl, _⟩ := DataW.trod_int Tryd.underlying2 i2
 simp at e0 e1 e2
 subst e0 e1 e2
 exact ⟨x0, x1, x2, rfl⟩
theorem cut_row (h : DataW.trod enc Tryd.prog W 0 sp true fuel 25 cs = some x) : ∃ r : Ro, cs = r.cells := by
 obtain ⟨xs, n, rfl, rfl, hl, hlen, hi⟩ := DataW.trod_struct Tryd.underlying25 h
 rw [Tryd.cl25] at hl
 obtain ⟨c0, c1, c2, c3, rfl⟩ : ∃ c0 c1 c2 c3, cs = [c0, c1, c2, c3] := by
  match cs, hl with
  | [a0, a1, a2, a3], _ => exact ⟨a0, a1, a2, a3, rfl⟩
 obtain ⟨y0, y1, rfl⟩ : ∃ y0 y1, xs = [y0, y1] := by
  match xs, hlen with
  | [a0, a1], _ => exact ⟨a0, a1, rfl⟩
 have i0 := hi 0 _ rfl
 have i1 := hi 1 _ rfl
 simp [Tryd.cl3, Tryd.cl23] at i0 i1
 obtain ⟨k, e0, rfl, _⟩ := DataW.trod_int Tryd.underlying3 i0
 obtain ⟨a, b, c, e1⟩ := cut_ids i1
 simp at e0 e1
 obtain ⟨e10, e11, e12⟩ := e1
 subst e0 e10 e11 e12
 exact ⟨⟨k, a, b, c⟩, rfl⟩
theorem cut_cell (h : DataW.trod enc Tryd.prog W 0 sp true fuel 27 cs = some x) : ∃ r : Ce, cs = r.cells := by
 obtain ⟨xs, n, rfl, rfl, hl, hlen, hi⟩ := DataW.trod_struct Tryd.underlying27 h
 rw [Tryd.cl27] at hl
 obtain ⟨c0, c1, c2, c3, c4, rfl⟩ : ∃ c0 c1 c2 c3 c4, cs = [c0, c1, c2, c3, c4] := by
  match cs, hl with
  | [a0, a1, a2, a3, a4], _ => exact ⟨a0, a1, a2, a3, a4, rfl⟩
 obtain ⟨y0, y1, rfl⟩ : ∃ y0 y1, xs = [y0, y1] := by
  match xs, hlen with
  | [a0, a1], _ => exact ⟨a0, a1, rfl⟩
 have i0 := hi 0 _ rfl
 have i1 := hi 1 _ rfl
 simp [Tryd.cl3, Tryd.cl25] at i0 i1
 obtain ⟨r, e0⟩ := cut_row i0
 obtain ⟨k, e1, rfl, _⟩ := DataW.trod_int Tryd.underlying3 i1
 simp [Ro.cells] at e0 e1
 obtain ⟨f0, f1, f2, f3⟩ := e0
 subst f0 f1 f2 f3 e1
 exact ⟨⟨r, k⟩, rfl⟩
end
section
variable {H : Type} {enc : TypeId × Value → H} {W : World} {base : Nat} {v : Value} {d : DataW H} {p : List MemPlace}
theorem open_cell (hv : Value.okWide Tryd.prog W .any base 27 v) (h : DataW.Trod enc Tryd.prog W 0 (fun _ => true) true 27 v d p) : ∃ x : Ce, v = x.v := by
 obtain ⟨a, rfl, _⟩ := okWide_struct Tryd.underlying27 hv
 obtain ⟨fuel, hf⟩ := h
 obtain ⟨x, e⟩ := cut_cell hf
 exact ⟨x, by have e2 : a = x.cells.toArray := (by rw [← e]; simp [Value.cells]); rw [e2]⟩
end
namespace D
end D
end Go.Proofs.YtnffhcjmpjajlaaDoor
namespace Go.Proofs.YtnffhcjmpjajlaaDoor.V
open Go.RowKit D
def NW (W : World) (z A : List Value) (u : Value) (w : World) : Prop := u = undef ∨ ∃ k, u = pt k 0 ∧ W.heap.size ≤ k ∧ (At w k z ∨ At w k A)
theorem NW.mo {W : World} {z A : List Value} {u : Value} {w w' : World} (h : NW W z A u w) (m : Mw w w') : NW W z A u w' := by
 rcases h with h | ⟨k, h1, h2, h3⟩
 ·exact .inl h
 ·exact .inr ⟨k, h1, h2, h3.imp (·.mo m) (·.mo m)⟩
theorem NW.lt {W : World} {z A : List Value} {u : Value} {w : World} (h : NW W z A u w) {k : Nat} (e : u = pt k 0) : k < w.heap.size := by
 rcases h with h | ⟨k', h1, _, h3⟩
 ·rw [h] at e; cases e
 ·rw [h1] at e; cases e
  rcases h3 with h | h <;> exact h.lt
theorem NW.at {W : World} {z A : List Value} {u : Value} {w : World} (h : NW W z A u w) {k : Nat} (e : u = pt k 0) : W.heap.size ≤ k ∧ (At w k z ∨ At w k A) := by
 rcases h with h | ⟨k', h1, h2, h3⟩
 ·rw [h] at e; cases e
 ·rw [h1] at e; cases e
  exact ⟨h2, h3⟩
end Go.Proofs.YtnffhcjmpjajlaaDoor.V
namespace Go.Proofs.YtnffhcjmpjajlaaDoor
open Go.ChangeShapes Go.WideShapes Go.ChangeAt Go.RowKit
namespace D
structure Se where
 nm : ByteArray
 mx : Int
 pi : Option Addr
 ci : Nat
 items : List It
 pk : Option Addr
 ck : Nat
 kids : List Se
def Se.cells (x : Se) : List Value := [.string x.nm, .int .i64 x.mx, .slice x.pi x.items.length x.ci, .slice x.pk x.kids.length x.ck]
theorem Se.len (e : Se) : e.cells.length = 4 := rfl
theorem Se.ind {M : Se → Prop} (h : ∀ nm mx pi ci items pk ck kids, (∀ o ∈ kids, M o) → M (.mk nm mx pi ci items pk ck kids)) : ∀ e, M e
 | .mk nm mx pi ci items pk ck kids => h nm mx pi ci items pk ck kids (fun o _ho => Se.ind h o)
def LSe (W : World) : Se → Prop
 | .mk _ _ pi _ items pk _ kids => SL W 23 It.cells pi items ∧ (∀ o ∈ items, LEx W o.ex) ∧ SL W 4 Se.cells pk kids ∧ ∀ o ∈ kids, LSe W o
theorem LSe.inv {W : World} : ∀ {x : Se}, LSe W x → SL W 23 It.cells x.pi x.items ∧ (∀ o ∈ x.items, LEx W o.ex) ∧ SL W 4 Se.cells x.pk x.kids ∧ ∀ o ∈ x.kids, LSe W o
 | .mk _ _ _ _ _ _ _ _, h => by rw [LSe] at h; exact h
theorem LSe.mk {W : World} : ∀ {x : Se}, SL W 23 It.cells x.pi x.items → (∀ o ∈ x.items, LEx W o.ex) → SL W 4 Se.cells x.pk x.kids → (∀ o ∈ x.kids, LSe W o) → LSe W x
 | .mk _ _ _ _ _ _ _ _, h1, h2, h3, h4 => by rw [LSe]; exact ⟨h1, h2, h3, h4⟩
theorem LSe.it {W : World} {x : Se} (h : LSe W x) : SL W 23 It.cells x.pi x.items := h.inv.1
theorem LSe.ex {W : World} {x : Se} (h : LSe W x) : ∀ o ∈ x.items, LEx W o.ex := h.inv.2.1
theorem LSe.kd {W : World} {x : Se} (h : LSe W x) : SL W 4 Se.cells x.pk x.kids := h.inv.2.2.1
theorem LSe.kr {W : World} {x : Se} (h : LSe W x) : ∀ o ∈ x.kids, LSe W o := h.inv.2.2.2
structure Sp3 where
 a : Dc
 b : Dc
 c : Dc
def Sp3.cells (s : Sp3) : List Value := s.a.cells ++ (s.b.cells ++ s.c.cells)
structure Tb where
 nm : ByteArray
 pa : Option Addr
 cap : Nat
 st : List Sp3
def Tb.cells (x : Tb) : List Value := [.string x.nm, .slice x.pa x.st.length x.cap]
structure Pg where
 nm : ByteArray
 wh : Ex
 pa : Option Addr
 cap : Nat
 its : List ByteArray
def Pg.cells (x : Pg) : List Value := .string x.nm :: (x.wh.cells ++ [.slice x.pa x.its.length x.cap])
structure Df where
 nm : ByteArray
 rt : Se
 pt : Option Addr
 ct : Nat
 tb : List Tb
 pp : Option Addr
 cp : Nat
 pg : List Pg
def Df.cells (x : Df) : List Value := .string x.nm :: (x.rt.cells ++ [.slice x.pt x.tb.length x.ct, .slice x.pp x.pg.length x.cp])
structure LDf (W : World) (x : Df) : Prop where
 rt : LSe W x.rt
 tb : SL W 2 Tb.cells x.pt x.tb
 st : ∀ o ∈ x.tb, SL W 18 Sp3.cells o.pa o.st
 pg : SL W 19 Pg.cells x.pp x.pg
 wh : ∀ o ∈ x.pg, LEx W o.wh
 it : ∀ o ∈ x.pg, SL W 1 (fun s => [Value.string s]) o.pa o.its
 iz : ∀ o ∈ x.pg, ∀ s ∈ o.its, s.size ≤ maxLen
section
variable {H : Type} {enc : TypeId × Value → H} {W : World} {sp : Nat → Bool}
theorem Pg.len (i : Pg) : i.cells.length = 19 := rfl
end
end D
end Go.Proofs.YtnffhcjmpjajlaaDoor

namespace Go.Proofs.YtnffhcjmpjajlaaDoor
open Go.RowKit

def dgt (c : Int) : Bool := decide (48 ≤ c) && decide (c ≤ 57)
def ltr (c : Int) : Bool := (decide (97 ≤ c) && decide (c ≤ 122)) || (decide (65 ≤ c) && decide (c ≤ 90)) || (c == 95)
theorem isLetter_n (c : Int) (w : World) : Calls Tryd.prog 85 #[.int .u8 c] w fun e w' => e = .returned (.bool (ltr c)) ∧ Mo w w' := by
 unfold ltr
 by_cases h : 97 ≤ c <;> by_cases h2 : c ≤ 122 <;> by_cases h3 : 65 ≤ c <;> by_cases h4 : c ≤ 90
 all_goals
  go_enter Tryd.func85, Tryd.ntmps85
  go_wp2
  go_ret
  exact ⟨by simp [h, h2, h3, h4] <;> omega, Mo.refl _⟩
theorem lisDigit_n (c : Int) (w : World) : Calls Tryd.prog 86 #[.int .u8 c] w fun e w' => e = .returned (.bool (dgt c)) ∧ Mo w w' := by
 unfold dgt
 by_cases h : 48 ≤ c <;> by_cases h2 : c ≤ 57
 all_goals
  go_enter Tryd.func86, Tryd.ntmps86
  go_wp2
  go_ret
  exact ⟨by simp [h, h2], Mo.refl _⟩
end Go.Proofs.YtnffhcjmpjajlaaDoor

namespace Go.Proofs.YtnffhcjmpjajlaaDoor
open Go.RowKit Go.Lib
abbrev by8 (s : ByteArray) : List UInt8 := s.data.toList
theorem by8_len (a : ByteArray) : (by8 a).length = a.size := (Lib.size_eq a).symm
end Go.Proofs.YtnffhcjmpjajlaaDoor

namespace Go.Proofs.YtnffhcjmpjajlaaDoor
open Go.RowKit
theorem eqz9 {s : ByteArray} {r : Bool} (h : decide (s.size = 0) = r) (x y : Operand) (w : World) : (do eqGuard .eql 9 x y (.string s) (.string ⟨#[]⟩); binOp .eql 9 (.string s) (.string ⟨#[]⟩)).run Tryd.prog w = .ok (.bool r) w := by
 refine eq9 (r := r) ?_ _ _ _
 rw [← h, Lib.toList_data, Lib.toList_data, Bool.eq_iff_iff, beq_iff_eq, decide_eq_true_iff, ← by8_len]
 exact List.length_eq_zero_iff.symm
theorem idx0z {s : ByteArray} (h : 0 < s.size) (w : World) : (Instr.index 9 (.string s) (.int .i64 (0))).run Tryd.prog w = .ok (.int .u8 (bt s (0))) w := idx_b (k := 0) h w
theorem ltr_c {f : Nat} {c : Int} {r : Bool} (h : ltr c = r) (hf : ∀ (c : Int) (w : World), Calls Tryd.prog f #[.int .u8 c] w fun e w' => e = .returned (.bool (ltr c)) ∧ Mo w w') (w : World) : Calls Tryd.prog f #[.int .u8 c] w fun e w' => e = .returned (.bool r) ∧ Mo w w' := h ▸ hf c w
theorem dgt_c {f : Nat} {c : Int} {r : Bool} (h : dgt c = r) (hf : ∀ (c : Int) (w : World), Calls Tryd.prog f #[.int .u8 c] w fun e w' => e = .returned (.bool (dgt c)) ∧ Mo w w') (w : World) : Calls Tryd.prog f #[.int .u8 c] w fun e w' => e = .returned (.bool r) ∧ Mo w w' := h ▸ hf c w
def nmF (s : ByteArray) : Nat → Nat → Bool
 | 0, _ => true
 | n + 1, k => (ltr (bt s k) || dgt (bt s k)) && nmF s n (k + 1)
def nmAy (s : ByteArray) (k : Nat) : Bool := nmF s (s.size - k) k
theorem nmA_eq (s : ByteArray) (k : Nat) : nmAy s k = if _h : k < s.size then (ltr (bt s k) || dgt (bt s k)) && nmAy s (k + 1) else true := by
 unfold nmAy
 by_cases h : k < s.size
 ·rw [dif_pos h, show s.size - k = (s.size - (k + 1)) + 1 by omega]; rfl
 ·rw [dif_neg h, show s.size - k = 0 by omega]; rfl
theorem nmA_in {s : ByteArray} {k : Nat} (h : k < s.size) : nmAy s k = ((ltr (bt s k) || dgt (bt s k)) && nmAy s (k + 1)) := by rw [nmA_eq, dif_pos h]
theorem nmA_end {s : ByteArray} {k : Nat} (h : ¬ k < s.size) : nmAy s k = true := by rw [nmA_eq, dif_neg h]
def nam (s : ByteArray) : Bool := !decide (s.size = 0) && !decide (32 < s.size) && ltr (bt s 0) && nmAy s 0
theorem name_n (s : ByteArray) (w : World) : Calls Tryd.prog 73 #[.string s] w fun e w' => e = .returned (.bool (nam s)) ∧ Mo w w' := by
 refine w_enter 35 Tryd.func73 Tryd.ntmps73 rfl rfl ?_
 have M : Mo w w := Mo.refl _
 refine w_seq (w_reg ?_)
 refine wl_m (.const (.bool false)) (.bool false) ?_
 refine w_nil (xn_then (w_seq (w_seq ?_)))
 cases hf0 : decide (s.size = 0) with
 | true =>
  have hf0p := of_decide_eq_true hf0
  refine w_reg ?_
  refine wl_m (.tmp 0) (.string s) ?_
  refine wl_b .eql 9 (.tmp 4) (.const (.string ⟨#[]⟩)) (.string s) (.string ⟨#[]⟩) (.bool true) (eqz9 hf0 _ _ _) ?_
  refine wl_m (.tmp 5) (.bool true) ?_
  refine wl_skip rfl (wl_skip rfl (wl_skip rfl ?_))
  refine wl_pick (.tmp 6) (.const (.bool true)) (.tmp 9) true (.bool true) (fun _ => rfl) rfl rfl rfl ?_
  refine wl_m (.tmp 10) (.bool true) ?_
  refine wl_skip rfl (wl_skip rfl (wl_skip rfl (wl_skip rfl ?_)))
  refine wl_pick (.tmp 11) (.const (.bool true)) (.tmp 15) true (.bool true) (fun _ => rfl) rfl rfl rfl ?_
  refine w_nil (xn_then (w_condT rfl (w_seq (w_reg ?_))))
  refine wl_m (.const (.bool false)) (.bool false) ?_
  refine w_nil (xn_then (w_ret (xr_then ?_)))
  exact w_ret1 _ (.bool false) rfl rfl ⟨by unfold nam; rw [hf0]; rfl, M⟩
 | false =>
  have hf0p := of_decide_eq_false hf0
  cases hf1 : decide (32 < s.size) with
  | true =>
   have hf1p := of_decide_eq_true hf1
   refine w_reg ?_
   refine wl_m (.tmp 0) (.string s) ?_
   refine wl_b .eql 9 (.tmp 4) (.const (.string ⟨#[]⟩)) (.string s) (.string ⟨#[]⟩) (.bool false) (eqz9 hf0 _ _ _) ?_
   refine wl_m (.tmp 5) (.bool false) ?_
   refine wl_m (.tmp 0) (.string s) ?_
   refine wl_val (.int .i64 ((s.size : Nat) : Int)) (len_s _ _ s (by exact rfl) _ _ _ _ _ _) rfl ?_
   refine wl_b .gtr 3 (.tmp 8) (.const (.int .i64 (32))) (.int .i64 ((s.size : Nat) : Int)) (.int .i64 (32)) (.bool true) (gtN hf1 _ _ _) ?_
   refine wl_pick (.tmp 6) (.const (.bool true)) (.tmp 9) false (.bool true) (fun _ => rfl) rfl rfl rfl ?_
   refine wl_m (.tmp 10) (.bool true) ?_
   refine wl_skip rfl (wl_skip rfl (wl_skip rfl (wl_skip rfl ?_)))
   refine wl_pick (.tmp 11) (.const (.bool true)) (.tmp 15) true (.bool true) (fun _ => rfl) rfl rfl rfl ?_
   refine w_nil (xn_then (w_condT rfl (w_seq (w_reg ?_))))
   refine wl_m (.const (.bool false)) (.bool false) ?_
   refine w_nil (xn_then (w_ret (xr_then ?_)))
   exact w_ret1 _ (.bool false) rfl rfl ⟨by unfold nam; rw [hf0, hf1]; rfl, M⟩
  | false =>
   have hf1p := of_decide_eq_false hf1
   cases hf2 : ltr (bt s (0)) with
   | true =>
    refine w_reg ?_
    refine wl_m (.tmp 0) (.string s) ?_
    refine wl_b .eql 9 (.tmp 4) (.const (.string ⟨#[]⟩)) (.string s) (.string ⟨#[]⟩) (.bool false) (eqz9 hf0 _ _ _) ?_
    refine wl_m (.tmp 5) (.bool false) ?_
    refine wl_m (.tmp 0) (.string s) ?_
    refine wl_val (.int .i64 ((s.size : Nat) : Int)) (len_s _ _ s (by exact rfl) _ _ _ _ _ _) rfl ?_
    refine wl_b .gtr 3 (.tmp 8) (.const (.int .i64 (32))) (.int .i64 ((s.size : Nat) : Int)) (.int .i64 (32)) (.bool false) (gtN hf1 _ _ _) ?_
    refine wl_pick (.tmp 6) (.const (.bool true)) (.tmp 9) false (.bool false) (fun _ => rfl) rfl rfl rfl ?_
    refine wl_m (.tmp 10) (.bool false) ?_
    refine wl_m (.tmp 0) (.string s) ?_
    refine wl_bin (fun x y => Instr.index 9 x y) (.tmp 12) (.const (.int .i64 (0))) (.string s) (.int .i64 (0)) (.int .u8 (bt s (0))) (fun _ => rfl) rfl rfl (idx0z (by omega) _) rfl ?_
    refine wl_call 85 [(.tmp 13)] _ [.int .u8 (bt s (0))] (.bool true) rfl rfl (fun _ _ => by kernel_rfl) (ltr_c hf2 isLetter_n _) rfl ?_
    intro w1 hq
    replace M := M.trans hq
    clear hq
    refine wl_un (fun v => Op.unary .not v) (.tmp 14) (.bool true) (.bool false) (fun _ => rfl) rfl (by kernel_rfl) rfl ?_
    refine wl_pick (.tmp 11) (.const (.bool true)) (.tmp 15) false (.bool false) (fun _ => rfl) rfl rfl rfl ?_
    refine w_nil (xn_then (w_condF rfl (w_skip (xn_then (w_seq (w_seq (w_reg ?_)))))))
    refine wl_m (.tmp 0) (.string s) ?_
    refine wl_val (.int .i64 ((s.size : Nat) : Int)) (len_s _ _ s (by exact rfl) _ _ _ _ _ _) rfl ?_
    refine wl_m (.const (.int .i64 (0))) (.int .i64 (0)) ?_
    refine w_nil (xn_then (w_block ?_))
    have hnam : nam s = nmAy s 0 := by unfold nam; rw [hf0, hf1, hf2]; rfl
    refine w_loop (fun m l w1 => ∃ j : Nat, m = s.size - j ∧ look l 0 = .string s ∧ look l 19 = .int .i64 ((j : Nat) : Int) ∧ look l 18 = .int .i64 ((s.size : Nat) : Int) ∧ j ≤ s.size ∧ nmAy s j = nam s ∧ Mo w w1) _ ⟨0, rfl, rfl, rfl, rfl, by omega, hnam.symm, M⟩ ?_
    clear M
    rintro m l wl ⟨j, rfl, e0, e3, e18, hj, hN, M⟩
    refine w_seq ?_
    cases hf30 : decide (j < s.size) with
    | true =>
     have hf30p := of_decide_eq_true hf30
     refine w_reg ?_
     refine wl_bin (fun x y => do eqGuard .lss 3 (.tmp 19) (.tmp 18) x y; binOp .lss 3 x y) (.tmp 19) (.tmp 18) (.int .i64 ((j : Nat) : Int)) (.int .i64 ((s.size : Nat) : Int)) (.bool true) (fun _ => rfl) e3 e18 (ltN hf30 _ _ _) rfl ?_
     refine w_nil (xn_then (w_seq (w_condT rfl (w_skip (xn_then (w_seq (w_block (w_seq (w_reg ?_)))))))))
     refine wl_mv (.tmp 19) (.int .i64 ((j : Nat) : Int)) (fun _ => rfl) e3 rfl ?_
     refine wl_m (.tmp 21) (.int .i64 ((j : Nat) : Int)) ?_
     refine w_nil (xn_then (w_seq ?_))
     cases hf31 : ltr (bt s (j)) with
     | true =>
      refine w_reg ?_
      refine wl_mv (.tmp 0) (.string s) (fun _ => rfl) e0 rfl ?_
      refine wl_m (.tmp 3) (.int .i64 ((j : Nat) : Int)) ?_
      refine wl_bin (fun x y => Instr.index 9 x y) (.tmp 22) (.tmp 23) (.string s) (.int .i64 ((j : Nat) : Int)) (.int .u8 (bt s (j))) (fun _ => rfl) rfl rfl (idx_b (by omega) _) rfl ?_
      refine wl_call 85 [(.tmp 24)] _ [.int .u8 (bt s (j))] (.bool true) rfl rfl (fun _ _ => by kernel_rfl) (ltr_c hf31 isLetter_n _) rfl ?_
      intro w31 hq
      replace M := M.trans hq
      clear hq
      refine wl_un (fun v => Op.unary .not v) (.tmp 25) (.bool true) (.bool false) (fun _ => rfl) rfl (by kernel_rfl) rfl ?_
      refine wl_m (.tmp 26) (.bool false) ?_
      refine wl_skip rfl (wl_skip rfl (wl_skip rfl (wl_skip rfl (wl_skip rfl ?_))))
      refine wl_pick (.tmp 27) (.tmp 32) (.const (.bool false)) false (.bool false) (fun _ => rfl) rfl rfl rfl ?_
      refine w_nil (xn_then (w_condF rfl (w_skip (xn_blk (xn_then (w_reg ?_))))))
      refine wl_bin (fun x y => do eqGuard .add 3 (.tmp 19) (.const (.int .i64 (1))) x y; binOp .add 3 x y) (.tmp 19) (.const (.int .i64 (1))) (.int .i64 ((j : Nat) : Int)) (.int .i64 (1)) (.int .i64 ((j + 1 : Nat) : Int)) (fun _ => rfl) e3 rfl (add1r (k := j) (by omega) _ _ _) rfl ?_
      refine wl_m (.tmp 34) (.int .i64 ((j + 1 : Nat) : Int)) ?_
      refine w_nil ?_
      exact xn_loop (s.size - (j + 1)) (by omega) ⟨j + 1, rfl, e0, rfl, e18, by omega, by rw [nmA_in (by omega)] at hN; rw [← hN]; simp [hf31], M⟩
     | false =>
      cases hf32 : dgt (bt s (j)) with
      | true =>
       refine w_reg ?_
       refine wl_mv (.tmp 0) (.string s) (fun _ => rfl) e0 rfl ?_
       refine wl_m (.tmp 3) (.int .i64 ((j : Nat) : Int)) ?_
       refine wl_bin (fun x y => Instr.index 9 x y) (.tmp 22) (.tmp 23) (.string s) (.int .i64 ((j : Nat) : Int)) (.int .u8 (bt s (j))) (fun _ => rfl) rfl rfl (idx_b (by omega) _) rfl ?_
       refine wl_call 85 [(.tmp 24)] _ [.int .u8 (bt s (j))] (.bool false) rfl rfl (fun _ _ => by kernel_rfl) (ltr_c hf31 isLetter_n _) rfl ?_
       intro w31 hq
       replace M := M.trans hq
       clear hq
       refine wl_un (fun v => Op.unary .not v) (.tmp 25) (.bool false) (.bool true) (fun _ => rfl) rfl (by kernel_rfl) rfl ?_
       refine wl_m (.tmp 26) (.bool true) ?_
       refine wl_mv (.tmp 0) (.string s) (fun _ => rfl) e0 rfl ?_
       refine wl_m (.tmp 3) (.int .i64 ((j : Nat) : Int)) ?_
       refine wl_bin (fun x y => Instr.index 9 x y) (.tmp 28) (.tmp 29) (.string s) (.int .i64 ((j : Nat) : Int)) (.int .u8 (bt s (j))) (fun _ => rfl) rfl rfl (idx_b (by omega) _) rfl ?_
       refine wl_call 86 [(.tmp 30)] _ [.int .u8 (bt s (j))] (.bool true) rfl rfl (fun _ _ => by kernel_rfl) (dgt_c hf32 lisDigit_n _) rfl ?_
       intro w32 hq
       replace M := M.trans hq
       clear hq
       refine wl_un (fun v => Op.unary .not v) (.tmp 31) (.bool true) (.bool false) (fun _ => rfl) rfl (by kernel_rfl) rfl ?_
       refine wl_pick (.tmp 27) (.tmp 32) (.const (.bool false)) true (.bool false) (fun _ => rfl) rfl rfl rfl ?_
       refine w_nil (xn_then (w_condF rfl (w_skip (xn_blk (xn_then (w_reg ?_))))))
       refine wl_bin (fun x y => do eqGuard .add 3 (.tmp 19) (.const (.int .i64 (1))) x y; binOp .add 3 x y) (.tmp 19) (.const (.int .i64 (1))) (.int .i64 ((j : Nat) : Int)) (.int .i64 (1)) (.int .i64 ((j + 1 : Nat) : Int)) (fun _ => rfl) e3 rfl (add1r (k := j) (by omega) _ _ _) rfl ?_
       refine wl_m (.tmp 34) (.int .i64 ((j + 1 : Nat) : Int)) ?_
       refine w_nil ?_
       exact xn_loop (s.size - (j + 1)) (by omega) ⟨j + 1, rfl, e0, rfl, e18, by omega, by rw [nmA_in (by omega)] at hN; rw [← hN]; simp [hf31, hf32], M⟩
      | false =>
       refine w_reg ?_
       refine wl_mv (.tmp 0) (.string s) (fun _ => rfl) e0 rfl ?_
       refine wl_m (.tmp 3) (.int .i64 ((j : Nat) : Int)) ?_
       refine wl_bin (fun x y => Instr.index 9 x y) (.tmp 22) (.tmp 23) (.string s) (.int .i64 ((j : Nat) : Int)) (.int .u8 (bt s (j))) (fun _ => rfl) rfl rfl (idx_b (by omega) _) rfl ?_
       refine wl_call 85 [(.tmp 24)] _ [.int .u8 (bt s (j))] (.bool false) rfl rfl (fun _ _ => by kernel_rfl) (ltr_c hf31 isLetter_n _) rfl ?_
       intro w31 hq
       replace M := M.trans hq
       clear hq
       refine wl_un (fun v => Op.unary .not v) (.tmp 25) (.bool false) (.bool true) (fun _ => rfl) rfl (by kernel_rfl) rfl ?_
       refine wl_m (.tmp 26) (.bool true) ?_
       refine wl_mv (.tmp 0) (.string s) (fun _ => rfl) e0 rfl ?_
       refine wl_m (.tmp 3) (.int .i64 ((j : Nat) : Int)) ?_
       refine wl_bin (fun x y => Instr.index 9 x y) (.tmp 28) (.tmp 29) (.string s) (.int .i64 ((j : Nat) : Int)) (.int .u8 (bt s (j))) (fun _ => rfl) rfl rfl (idx_b (by omega) _) rfl ?_
       refine wl_call 86 [(.tmp 30)] _ [.int .u8 (bt s (j))] (.bool false) rfl rfl (fun _ _ => by kernel_rfl) (dgt_c hf32 lisDigit_n _) rfl ?_
       intro w32 hq
       replace M := M.trans hq
       clear hq
       refine wl_un (fun v => Op.unary .not v) (.tmp 31) (.bool false) (.bool true) (fun _ => rfl) rfl (by kernel_rfl) rfl ?_
       refine wl_pick (.tmp 27) (.tmp 32) (.const (.bool false)) true (.bool true) (fun _ => rfl) rfl rfl rfl ?_
       refine w_nil (xn_then (w_condT rfl (w_seq (w_reg ?_))))
       refine wl_m (.const (.bool false)) (.bool false) ?_
       refine w_nil (xn_then (w_ret (xr_blk (xr_then (xr_then (xr_blk (xr_then ?_)))))))
       exact w_ret1 _ (.bool false) rfl rfl ⟨by rw [← hN, nmA_in (by omega)]; simp [hf31, hf32], M⟩
    | false =>
     have hf30p := of_decide_eq_false hf30
     refine w_reg ?_
     refine wl_bin (fun x y => do eqGuard .lss 3 (.tmp 19) (.tmp 18) x y; binOp .lss 3 x y) (.tmp 19) (.tmp 18) (.int .i64 ((j : Nat) : Int)) (.int .i64 ((s.size : Nat) : Int)) (.bool false) (fun _ => rfl) e3 e18 (ltN hf30 _ _ _) rfl ?_
     refine w_nil (xn_then (w_seq (w_condF rfl (w_exit (xx_then (xx_then (xx_blk (xn_then (w_seq (w_reg ?_))))))))))
     refine wl_m (.const (.bool true)) (.bool true) ?_
     refine w_nil (xn_then (w_ret ?_))
     exact w_ret1 _ (.bool true) rfl rfl ⟨by rw [← hN, nmA_end (by omega)], M⟩
   | false =>
    refine w_reg ?_
    refine wl_m (.tmp 0) (.string s) ?_
    refine wl_b .eql 9 (.tmp 4) (.const (.string ⟨#[]⟩)) (.string s) (.string ⟨#[]⟩) (.bool false) (eqz9 hf0 _ _ _) ?_
    refine wl_m (.tmp 5) (.bool false) ?_
    refine wl_m (.tmp 0) (.string s) ?_
    refine wl_val (.int .i64 ((s.size : Nat) : Int)) (len_s _ _ s (by exact rfl) _ _ _ _ _ _) rfl ?_
    refine wl_b .gtr 3 (.tmp 8) (.const (.int .i64 (32))) (.int .i64 ((s.size : Nat) : Int)) (.int .i64 (32)) (.bool false) (gtN hf1 _ _ _) ?_
    refine wl_pick (.tmp 6) (.const (.bool true)) (.tmp 9) false (.bool false) (fun _ => rfl) rfl rfl rfl ?_
    refine wl_m (.tmp 10) (.bool false) ?_
    refine wl_m (.tmp 0) (.string s) ?_
    refine wl_bin (fun x y => Instr.index 9 x y) (.tmp 12) (.const (.int .i64 (0))) (.string s) (.int .i64 (0)) (.int .u8 (bt s (0))) (fun _ => rfl) rfl rfl (idx0z (by omega) _) rfl ?_
    refine wl_call 85 [(.tmp 13)] _ [.int .u8 (bt s (0))] (.bool false) rfl rfl (fun _ _ => by kernel_rfl) (ltr_c hf2 isLetter_n _) rfl ?_
    intro w1 hq
    replace M := M.trans hq
    clear hq
    refine wl_un (fun v => Op.unary .not v) (.tmp 14) (.bool false) (.bool true) (fun _ => rfl) rfl (by kernel_rfl) rfl ?_
    refine wl_pick (.tmp 11) (.const (.bool true)) (.tmp 15) false (.bool true) (fun _ => rfl) rfl rfl rfl ?_
    refine w_nil (xn_then (w_condT rfl (w_seq (w_reg ?_))))
    refine wl_m (.const (.bool false)) (.bool false) ?_
    refine w_nil (xn_then (w_ret (xr_then ?_)))
    exact w_ret1 _ (.bool false) rfl rfl ⟨by unfold nam; rw [hf0, hf1, hf2]; rfl, M⟩
end Go.Proofs.YtnffhcjmpjajlaaDoor

namespace Go.Proofs.YtnffhcjmpjajlaaDoor
open Go.RowKit Go.ChangeMaps
section
variable {P : Program} {o : Oper} {n : Nat} {l : List (Nat × Value)} {w : World} {ops : Array Oper} {rest : List Oper} {Q : Exit → Act → World → Prop} {K : Act → World → Prop} {c : Code}
theorem lkp (t : TypeId) (m x : Operand) (c : Bool) (a b v : Value) (ho : o.op = .lookup t m x c) (hm : evl n l m = a) (hx : evl n l x = b) (h : (Instr.lookup t a b c).run P w = .ok v w) : (execOp (evl n l) o).run P w = .ok (.value v) w := by
 simp [execOp, ho, hm, hx, h]
theorem w_ret0 {fn : Func} {R : Ending → World → Prop} (hf : fn.results = #[]) (hR : R (.returned (.tuple #[])) w) : WX (bodyPost P fn R) .ret n l w :=
 ⟨⟨rfl, .tuple #[], by simp [results, hf], hR⟩⟩
theorem w_end0 {fn : Func} {R : Ending → World → Prop} (hf : fn.results = #[]) (hR : R (.returned (.tuple #[])) w) : WX (bodyPost P fn R) .normal n l w :=
 ⟨⟨rfl, .tuple #[], by simp [results, hf], hR⟩⟩
end
/-! Maps from names to whole numbers, and from names to flags. -/
def lk (al : List (ByteArray × Int)) (k : ByteArray) : Option Int := (al.find? (fun p => decide (p.1 = k))).map (·.2)
theorem lk_cons (a : ByteArray) (v : Int) (al : List (ByteArray × Int)) (k : ByteArray) : lk ((a, v) :: al) k = if a = k then some v else lk al k := by
 unfold lk
 rw [List.find?_cons]
 by_cases h : a = k
 ·simp [h]
 ·simp [h]
def RI (v : Value) : Option (DataW Unit × List MemPlace) := match v with
 | .int .i64 k => some (.lit (.int .i64 k), [])
 | _ => none
theorem RI_inv {v : Value} {x : Int} {ps : List MemPlace} (h : RI v = some (.lit (.int .i64 x), ps)) : v = .int .i64 x := by
 unfold RI at h
 split at h
 ·simp at h; rw [h.1]
 ·cases h
theorem keyd : Maps.Keyed Tryd.prog 9 := Maps.string_keyed Tryd.underlying9
theorem key_mk {s : ByteArray} (h : s.size ≤ maxLen) : keyOf Tryd.prog 9 (.string s) = some (.string s.data.toList) := WideMaps.keyOf_string_mk Tryd.underlying9 h
theorem key_ne {a b : ByteArray} (h : a ≠ b) : (Lit.string a.data.toList) ≠ .string b.data.toList := fun e => h (by
 obtain ⟨⟨x⟩⟩ := a
 obtain ⟨⟨y⟩⟩ := b
 simp at e
 rw [e])
def OM (w : World) (b : Nat) (al : List (ByteArray × Int)) : Prop :=
 ∃ D0 : DataW Unit, w.ownsMap Tryd.prog 9 RI b al.length D0 ∧ Maps.size D0 = al.length ∧ (∀ s, Maps.has D0 (.string s.data.toList) = (lk al s).isSome) ∧ ∀ s k, lk al s = some k → ∀ z, D0.atKey (.string s.data.toList) z = .lit (.int .i64 k)
variable {w w' : World} {b : Nat} {al : List (ByteArray × Int)}
theorem owns_tight {D0 : DataW Unit} {m : Nat} (h : w.ownsMap Tryd.prog 9 RI b m D0) : w.ownsMap Tryd.prog 9 RI b (Maps.size D0) D0 := by
 obtain ⟨es, clock, hb, F, _, rfl⟩ := h
 exact ⟨es, clock, hb, F, by simp [Maps.size, length_sorted], rfl⟩
theorem OM.mk {D : Nat → Prop} (h : OM w b al) (m : Mk D w w') (hb : ¬ D b) : OM w' b al := by
 obtain ⟨D0, h1, h2⟩ := h
 refine ⟨D0, ?_, h2⟩
 have hlt := h1.lt
 obtain ⟨es, clock, hb', F, hs, hD⟩ := h1
 exact ⟨es, clock, (m.block b hlt hb).trans hb', F, hs, hD⟩
theorem OM.mo (h : OM w b al) (m : Mo w w') : OM w' b al := h.mk (Mk.of (fun _ => False) m) (fun e => e)
theorem OM.lt (h : OM w b al) : b < w.heap.size := by obtain ⟨D0, h1, _⟩ := h; exact h1.lt
theorem OM.nocell (h : OM w b al) (o : Nat) : w.cell? ⟨b, o, none⟩ = none := by
 obtain ⟨D0, ⟨es, clock, hb, _⟩, _⟩ := h
 simp [World.cell?, hb]
theorem OM.look (h : OM w b al) {s : ByteArray} (hs : s.size ≤ maxLen) : (Instr.lookup 108 (.map (some b)) (.string s) false).run Tryd.prog w = .ok (.int .i64 ((lk al s).getD 0)) w := by
 obtain ⟨D0, h1, _, h3, h4⟩ := h
 have hz : (zeroValue 3).run Tryd.prog w = .ok (.int .i64 0) w := by kernel_rfl
 obtain ⟨v, ps, hr, hv⟩ := h1.lookup keyd Tryd.underlying108 hz (zd := .lit (.int .i64 0)) (zp := []) rfl (key_mk hs)
 have e : D0.atKey (.string s.data.toList) (.lit (.int .i64 0)) = .lit (.int .i64 ((lk al s).getD 0)) := by
  cases hf : lk al s with
  | none => exact Maps.atKey_of_not_has (by rw [h3, hf]; rfl) _
  | some k => exact h4 s k hf _
 rw [e] at hv
 rw [hr, RI_inv hv]
theorem OM.looks (h : OM w b al) {s : ByteArray} (hs : s.size ≤ maxLen) : (Instr.lookup 108 (.map (some b)) (.string s) true).run Tryd.prog w = .ok (.tuple #[.int .i64 ((lk al s).getD 0), .bool (lk al s).isSome]) w := by
 obtain ⟨D0, h1, _, h3, h4⟩ := h
 have hz : (zeroValue 3).run Tryd.prog w = .ok (.int .i64 0) w := by kernel_rfl
 obtain ⟨v, ps, hr, hv⟩ := h1.look_ok keyd Tryd.underlying108 hz (zd := .lit (.int .i64 0)) (zp := []) rfl (key_mk hs)
 have e : D0.atKey (.string s.data.toList) (.lit (.int .i64 0)) = .lit (.int .i64 ((lk al s).getD 0)) := by
  cases hf : lk al s with
  | none => exact Maps.atKey_of_not_has (by rw [h3, hf]; rfl) _
  | some k => exact h4 s k hf _
 rw [e] at hv
 rw [hr, RI_inv hv, h3]
theorem turned_mk (h : w.mapTurned w' b) : Mk (fun k => k = b) w w' := by
 have g := h.grown
 exact ⟨g.os, g.tape, g.output, g.size, fun k hk hd => g.block k hk (fun e => hd (Option.some.inj e)), h.frozen⟩
theorem OM.put (h : OM w b al) (hn : al.length < 1000000) {s : ByteArray} (hs : s.size ≤ maxLen) (hf : lk al s = none) (k : Int) :
  ∃ w', (Instr.mapUpdate 108 (.map (some b)) (.string s) (.int .i64 k)).run Tryd.prog w = .ok () w' ∧ OM w' b ((s, k) :: al) ∧ Mk (fun j => j = b) w w' := by
 obtain ⟨D0, h1, h2, h3, h4⟩ := h
 obtain ⟨w', hr, ho, ht⟩ := h1.store keyd Tryd.underlying108 (by unfold maxLen; omega) (key_mk hs) (show RI (.int .i64 k) = some (.lit (.int .i64 k), []) from rfl)
 have hkl : WideAt.IsKeyLit (Lit.string s.data.toList) := trivial
 have hsz := Maps.size_put (h1.tidy keyd) (k := .string s.data.toList) (.lit (.int .i64 k))
 rw [h3, h2, hf] at hsz
 simp at hsz
 refine ⟨w', hr, ⟨_, ?_, hsz, fun j => ?_, fun j q hq z => ?_⟩, turned_mk ht⟩
 ·have := owns_tight ho
  rw [hsz] at this
  exact this
 ·rw [lk_cons]
  by_cases e : s = j
  ·subst e; rw [if_pos rfl, Maps.has_put_same h1.isMap hkl]; rfl
  ·rw [if_neg e, Maps.has_put_other (key_ne (Ne.symm e)), h3]
 ·rw [lk_cons] at hq
  by_cases e : s = j
  ·subst e; rw [if_pos rfl] at hq; cases hq; exact Maps.atKey_put_same h1.isMap hkl _ _
  ·rw [if_neg e] at hq; rw [Maps.atKey_put_other (key_ne (Ne.symm e))]; exact h4 j q hq z
theorem OM.new (w : World) : OM (w.alloc (.map #[] 0)) w.heap.size [] :=
 ⟨_, World.ownsMap_made w Tryd.prog 9 RI, rfl, fun _ => rfl, fun _ _ h => by cases h⟩
theorem Mo.allocm (w : World) : Mo w (w.alloc (.map #[] 0)) :=
 ⟨(Below.refl _ _).alloc (Nat.le_refl _) _, fun a => by
  rcases Nat.lt_trichotomy a.block w.heap.size with h | h | h
  ·exact World.frozen?_of_block (Below.heap_alloc w _ _ h)
  ·have h1 := heap_alloc_new w (.map #[] 0)
   rw [← h] at h1
   have h2 : w.heap[a.block]? = none := Array.getElem?_eq_none (by omega)
   unfold World.frozen?
   rw [h1, h2]
  ·have h1 : (w.alloc (.map #[] 0)).heap[a.block]? = none := Array.getElem?_eq_none (by simp; omega)
   have h2 : w.heap[a.block]? = none := Array.getElem?_eq_none (by omega)
   unfold World.frozen?
   rw [h1, h2]⟩
section
variable {o : Oper} {n : Nat} {l : List (Nat × Value)} {w : World} {ops : Array Oper} {rest : List Oper} {Q : Exit → Act → World → Prop} {K : Act → World → Prop}
theorem wl_mup (m x v : Operand) (b : Nat) (s : ByteArray) (k : Int) {al : List (ByteArray × Int)} (hM : OM w b al) (hc : al.length < 1000000) (hs : s.size ≤ maxLen) (hf : lk al s = none) (ho : o.op = .mapUpdate 108 m x v) (hd : o.dst = none) (hm : evl n l m = .map (some b)) (hx : evl n l x = .string s) (hv : evl n l v = .int .i64 k) (hg : wnt n l ops o = true)
  (hk : ∀ w', OM w' b ((s, k) :: al) → Mk (fun j => j = b) w w' → WL Tryd.prog ops Q rest n l w') : WL Tryd.prog ops Q (o :: rest) n l w := by
 obtain ⟨w', hr, h1, h2⟩ := hM.put hc hs hf k
 refine ⟨l_step hg ?_⟩
 have e : (execOp (evl n l) o).run Tryd.prog w = .ok .skip w' := by simp [execOp, ho, hm, hx, hv, hr]
 unfold Oper.wp; rw [fr_eval, e, Oper.upon_skip, hd]; exact (hk w' h1 h2).out
theorem mm_run (t : TypeId) (w : World) : (Instr.makeMap t none).run Tryd.prog w = .ok (.map (some w.heap.size)) (w.alloc (.map #[] 0)) := rfl
theorem wl_mm (t : TypeId) (ho : o.op = .makeMap t none) (hg : wnt n l ops o = true)
  (hk : ∀ b w', w.heap.size = b → w'.heap.size = b + 1 → Mo w w' → OM w' b [] → WL Tryd.prog ops Q rest n (ext l o.dst (.map (some b))) w') : WL Tryd.prog ops Q (o :: rest) n l w := by
 refine ⟨l_step hg (o_val (.map (some w.heap.size)) (w' := w.alloc (.map #[] 0)) ?_ (hk _ _ rfl (by simp) (Mo.allocm w) (OM.new w)).out)⟩
 simp [execOp, ho, mm_run]
end
end Go.Proofs.YtnffhcjmpjajlaaDoor

namespace Go.Proofs.YtnffhcjmpjajlaaDoor
open Go.ChangeShapes Go.WideShapes Go.ChangeAt Go.RowKit
namespace D
theorem LSe.kp {W W' : World} (m : Kp W W') {e : Se} (h : LSe W e) : LSe W' e :=
 Se.ind (M := fun e => LSe W e → LSe W' e) (fun _ _ _ _ _ _ _ _ ih h => .mk (h.it.kp m) (fun o ho => (h.ex o ho).kp m) (h.kd.kp m) (fun o ho => ih o ho (h.kr o ho))) e h
theorem LDf.kp {W W' : World} (m : Kp W W') {x : Df} (h : LDf W x) : LDf W' x :=
 ⟨h.rt.kp m, h.tb.kp m, fun o ho => (h.st o ho).kp m, h.pg.kp m, fun o ho => (h.wh o ho).kp m, fun o ho => (h.it o ho).kp m, h.iz⟩
theorem ix42 {pa : Option Addr} {b off i n c : Nat} (hp : pa = some ⟨b, off, none⟩) (h : i < n) (w : World) : (Instr.indexAt 42 (.slice pa n c) (.int .i64 (i : Int))).run Tryd.prog w = .ok (pt b (off + i * 23)) w := by
 subst hp
 have e : (Instr.indexAt 42 (.slice (some ⟨b, off, none⟩) n c) (.int .i64 (i : Int))).run Tryd.prog w = .ok (.pointer (some ((⟨b, off, none⟩ : Addr).add (i * 23)))) w := by simp [go_sem, h]
 rw [e, Addr.add_mid]
theorem len42 (ρ : Operand → Value) (x : Operand) (p : Option Addr) (m c : Nat) (hx : ρ x = .slice p m c) (dst : Option Tmp) (type : TypeId) (pos : String) (after : Array Edge) (guard : Option (Nat × Bool)) (w : World) : (execOp ρ { dst, op := .call { callee := .builtin .len, args := #[x], argTypes := #[42] }, type, pos, after, guard }).run Tryd.prog w = .ok (.value (.int .i64 (m : Int))) w := by
 simp [go_sem, hx]
theorem ix43 {pa : Option Addr} {b off i n c : Nat} (hp : pa = some ⟨b, off, none⟩) (h : i < n) (w : World) : (Instr.indexAt 43 (.slice pa n c) (.int .i64 (i : Int))).run Tryd.prog w = .ok (pt b (off + i * 4)) w := by
 subst hp
 have e : (Instr.indexAt 43 (.slice (some ⟨b, off, none⟩) n c) (.int .i64 (i : Int))).run Tryd.prog w = .ok (.pointer (some ((⟨b, off, none⟩ : Addr).add (i * 4)))) w := by simp [go_sem, h]
 rw [e, Addr.add_mid]
theorem len43 (ρ : Operand → Value) (x : Operand) (p : Option Addr) (m c : Nat) (hx : ρ x = .slice p m c) (dst : Option Tmp) (type : TypeId) (pos : String) (after : Array Edge) (guard : Option (Nat × Bool)) (w : World) : (execOp ρ { dst, op := .call { callee := .builtin .len, args := #[x], argTypes := #[43] }, type, pos, after, guard }).run Tryd.prog w = .ok (.value (.int .i64 (m : Int))) w := by
 simp [go_sem, hx]
theorem ix46 {pa : Option Addr} {b off i n c : Nat} (hp : pa = some ⟨b, off, none⟩) (h : i < n) (w : World) : (Instr.indexAt 46 (.slice pa n c) (.int .i64 (i : Int))).run Tryd.prog w = .ok (pt b (off + i * 2)) w := by
 subst hp
 have e : (Instr.indexAt 46 (.slice (some ⟨b, off, none⟩) n c) (.int .i64 (i : Int))).run Tryd.prog w = .ok (.pointer (some ((⟨b, off, none⟩ : Addr).add (i * 2)))) w := by simp [go_sem, h]
 rw [e, Addr.add_mid]
theorem len46 (ρ : Operand → Value) (x : Operand) (p : Option Addr) (m c : Nat) (hx : ρ x = .slice p m c) (dst : Option Tmp) (type : TypeId) (pos : String) (after : Array Edge) (guard : Option (Nat × Bool)) (w : World) : (execOp ρ { dst, op := .call { callee := .builtin .len, args := #[x], argTypes := #[46] }, type, pos, after, guard }).run Tryd.prog w = .ok (.value (.int .i64 (m : Int))) w := by
 simp [go_sem, hx]
theorem ix47 {pa : Option Addr} {b off i n c : Nat} (hp : pa = some ⟨b, off, none⟩) (h : i < n) (w : World) : (Instr.indexAt 47 (.slice pa n c) (.int .i64 (i : Int))).run Tryd.prog w = .ok (pt b (off + i * 19)) w := by
 subst hp
 have e : (Instr.indexAt 47 (.slice (some ⟨b, off, none⟩) n c) (.int .i64 (i : Int))).run Tryd.prog w = .ok (.pointer (some ((⟨b, off, none⟩ : Addr).add (i * 19)))) w := by simp [go_sem, h]
 rw [e, Addr.add_mid]
theorem len47 (ρ : Operand → Value) (x : Operand) (p : Option Addr) (m c : Nat) (hx : ρ x = .slice p m c) (dst : Option Tmp) (type : TypeId) (pos : String) (after : Array Edge) (guard : Option (Nat × Bool)) (w : World) : (execOp ρ { dst, op := .call { callee := .builtin .len, args := #[x], argTypes := #[47] }, type, pos, after, guard }).run Tryd.prog w = .ok (.value (.int .i64 (m : Int))) w := by
 simp [go_sem, hx]
theorem ix22 {pa : Option Addr} {b off i n c : Nat} (hp : pa = some ⟨b, off, none⟩) (h : i < n) (w : World) : (Instr.indexAt 22 (.slice pa n c) (.int .i64 (i : Int))).run Tryd.prog w = .ok (pt b (off + i * 5)) w := by
 subst hp
 have e : (Instr.indexAt 22 (.slice (some ⟨b, off, none⟩) n c) (.int .i64 (i : Int))).run Tryd.prog w = .ok (.pointer (some ((⟨b, off, none⟩ : Addr).add (i * 5)))) w := by simp [go_sem, h]
 rw [e, Addr.add_mid]
theorem len22 (ρ : Operand → Value) (x : Operand) (p : Option Addr) (m c : Nat) (hx : ρ x = .slice p m c) (dst : Option Tmp) (type : TypeId) (pos : String) (after : Array Edge) (guard : Option (Nat × Bool)) (w : World) : (execOp ρ { dst, op := .call { callee := .builtin .len, args := #[x], argTypes := #[22] }, type, pos, after, guard }).run Tryd.prog w = .ok (.value (.int .i64 (m : Int))) w := by
 simp [go_sem, hx]
theorem ix120 {pa : Option Addr} {b off i n c : Nat} (hp : pa = some ⟨b, off, none⟩) (h : i < n) (w : World) : (Instr.indexAt 120 (.slice pa n c) (.int .i64 (i : Int))).run Tryd.prog w = .ok (pt b (off + i * 1)) w := by
 subst hp
 have e : (Instr.indexAt 120 (.slice (some ⟨b, off, none⟩) n c) (.int .i64 (i : Int))).run Tryd.prog w = .ok (.pointer (some ((⟨b, off, none⟩ : Addr).add (i * 1)))) w := by simp [go_sem, h]
 rw [e, Addr.add_mid]
theorem len120 (ρ : Operand → Value) (x : Operand) (p : Option Addr) (m c : Nat) (hx : ρ x = .slice p m c) (dst : Option Tmp) (type : TypeId) (pos : String) (after : Array Edge) (guard : Option (Nat × Bool)) (w : World) : (execOp ρ { dst, op := .call { callee := .builtin .len, args := #[x], argTypes := #[120] }, type, pos, after, guard }).run Tryd.prog w = .ok (.value (.int .i64 (m : Int))) w := by
 simp [go_sem, hx]
theorem ix75 {pa : Option Addr} {b off i n c : Nat} (hp : pa = some ⟨b, off, none⟩) (h : i < n) (w : World) : (Instr.indexAt 75 (.slice pa n c) (.int .i64 (i : Int))).run Tryd.prog w = .ok (pt b (off + i * 17)) w := by
 subst hp
 have e : (Instr.indexAt 75 (.slice (some ⟨b, off, none⟩) n c) (.int .i64 (i : Int))).run Tryd.prog w = .ok (.pointer (some ((⟨b, off, none⟩ : Addr).add (i * 17)))) w := by simp [go_sem, h]
 rw [e, Addr.add_mid]
theorem len75 (ρ : Operand → Value) (x : Operand) (p : Option Addr) (m c : Nat) (hx : ρ x = .slice p m c) (dst : Option Tmp) (type : TypeId) (pos : String) (after : Array Edge) (guard : Option (Nat × Bool)) (w : World) : (execOp ρ { dst, op := .call { callee := .builtin .len, args := #[x], argTypes := #[75] }, type, pos, after, guard }).run Tryd.prog w = .ok (.value (.int .i64 (m : Int))) w := by
 simp [go_sem, hx]
theorem ix98 {pa : Option Addr} {b off i n c : Nat} (hp : pa = some ⟨b, off, none⟩) (h : i < n) (w : World) : (Instr.indexAt 98 (.slice pa n c) (.int .i64 (i : Int))).run Tryd.prog w = .ok (pt b (off + i * 1)) w := by
 subst hp
 have e : (Instr.indexAt 98 (.slice (some ⟨b, off, none⟩) n c) (.int .i64 (i : Int))).run Tryd.prog w = .ok (.pointer (some ((⟨b, off, none⟩ : Addr).add (i * 1)))) w := by simp [go_sem, h]
 rw [e, Addr.add_mid]
theorem len98 (ρ : Operand → Value) (x : Operand) (p : Option Addr) (m c : Nat) (hx : ρ x = .slice p m c) (dst : Option Tmp) (type : TypeId) (pos : String) (after : Array Edge) (guard : Option (Nat × Bool)) (w : World) : (execOp ρ { dst, op := .call { callee := .builtin .len, args := #[x], argTypes := #[98] }, type, pos, after, guard }).run Tryd.prog w = .ok (.value (.int .i64 (m : Int))) w := by
 simp [go_sem, hx]
theorem len113 (ρ : Operand → Value) (x : Operand) (p : Option Addr) (m c : Nat) (hx : ρ x = .slice p m c) (dst : Option Tmp) (type : TypeId) (pos : String) (after : Array Edge) (guard : Option (Nat × Bool)) (w : World) : (execOp ρ { dst, op := .call { callee := .builtin .len, args := #[x], argTypes := #[113] }, type, pos, after, guard }).run Tryd.prog w = .ok (.value (.int .i64 (m : Int))) w := by
 simp [go_sem, hx]
theorem ix109 {pa : Option Addr} {b off i n c : Nat} (hp : pa = some ⟨b, off, none⟩) (h : i < n) (w : World) : (Instr.indexAt 109 (.slice pa n c) (.int .i64 (i : Int))).run Tryd.prog w = .ok (pt b (off + i * 1)) w := by
 subst hp
 have e : (Instr.indexAt 109 (.slice (some ⟨b, off, none⟩) n c) (.int .i64 (i : Int))).run Tryd.prog w = .ok (.pointer (some ((⟨b, off, none⟩ : Addr).add (i * 1)))) w := by simp [go_sem, h]
 rw [e, Addr.add_mid]
end D
theorem sz45 : (Tryd.prog.info? 45).map (·.size) = some 4 := by kernel_rfl
theorem sz49 : (Tryd.prog.info? 49).map (·.size) = some 7 := by kernel_rfl
theorem sz52 : (Tryd.prog.info? 52).map (·.size) = some 5 := by kernel_rfl
theorem sz77 : (Tryd.prog.info? 77).map (·.size) = some 17 := by kernel_rfl
theorem sz115 : (Tryd.prog.info? 115).map (·.size) = some 2 := by kernel_rfl
theorem sz122 : (Tryd.prog.info? 122).map (·.size) = some 19 := by kernel_rfl
theorem sz109 : (Tryd.prog.info? 109).map (·.size) = some 1 := by kernel_rfl
theorem sz134 : (Tryd.prog.info? 134).map (·.size) = some 1 := by kernel_rfl
namespace D
end D
end Go.Proofs.YtnffhcjmpjajlaaDoor

namespace Go.Proofs.YtnffhcjmpjajlaaDoor
open Go.RowKit D
def wds : List ByteArray := [⟨#[114, 101, 116, 117, 114, 110]⟩, ⟨#[102, 105, 101, 108, 100]⟩, ⟨#[108, 105, 110, 101]⟩, ⟨#[99, 104, 101, 99, 107]⟩, ⟨#[115, 101, 99, 116, 105, 111, 110]⟩, ⟨#[116, 97, 98, 108, 101]⟩, ⟨#[112, 97, 103, 101]⟩, ⟨#[119, 104, 101, 110]⟩, ⟨#[109, 97, 120]⟩, ⟨#[102, 114, 111, 109]⟩, ⟨#[98, 97, 115, 101]⟩, ⟨#[114, 97, 116, 101]⟩, ⟨#[110, 101, 101, 100, 101, 100]⟩, ⟨#[97, 109, 111, 117, 110, 116]⟩, ⟨#[102, 108, 97, 103]⟩, ⟨#[116, 101, 120, 116]⟩, ⟨#[105, 102]⟩, ⟨#[114, 111, 117, 110, 100]⟩, ⟨#[98, 108, 97, 110, 107]⟩, ⟨#[114, 111, 119, 115]⟩, ⟨#[115, 117, 109]⟩, ⟨#[99, 111, 117, 110, 116]⟩, ⟨#[109, 105, 110]⟩, ⟨#[97, 110, 100]⟩, ⟨#[111, 114]⟩, ⟨#[110, 111, 116]⟩, ⟨#[116, 114, 117, 101]⟩, ⟨#[102, 97, 108, 115, 101]⟩, ⟨#[104, 97, 108, 102, 95, 117, 112]⟩, ⟨#[104, 97, 108, 102, 95, 101, 118, 101, 110]⟩, ⟨#[100, 111, 119, 110]⟩, ⟨#[117, 112]⟩, ⟨#[102, 108, 111, 111, 114]⟩]
def rsv (s : ByteArray) : Bool := wds.any (fun x => decide (s = x))
def may (s : ByteArray) : Bool := nam s && !rsv s
def cbr (k : Int) : Bool := decide (k = 1) || decide (k = 2)
def prn (L : List S5) (s : Nat) : Int := ((L[s]?).map (·.pr)).getD (-1)
def nmO (L : List S5) (s : Nat) : ByteArray := ((L[s]?).map (·.nm)).getD ⟨#[]⟩
def itO (L : List S5) (s : Nat) : List It := ((L[s]?).map (·.items)).getD []
def anc (L : List S5) (s : Nat) : List Nat := s :: (if _h : 0 ≤ prn L s ∧ (prn L s).toNat < s then anc L (prn L s).toNat else [])
def Wf (L : List S5) : Prop := ∀ (i : Nat) (x : S5), L[i]? = some x → x.pr < i ∧ -1 ≤ x.pr ∧ (0 < i → 0 ≤ x.pr)
def Up (L : List S5) (a : Int) (R : List Nat) : Prop := (a < 0 ∧ R = []) ∨ ∃ k : Nat, a = k ∧ k < L.length ∧ R = anc L k
theorem prn_of {L : List S5} {k : Nat} {x : S5} (h : L[k]? = some x) : prn L k = x.pr := by unfold prn; rw [h]; rfl
theorem nmO_of {L : List S5} {k : Nat} {x : S5} (h : L[k]? = some x) : nmO L k = x.nm := by unfold nmO; rw [h]; rfl
theorem itO_of {L : List S5} {k : Nat} {x : S5} (h : L[k]? = some x) : itO L k = x.items := by unfold itO; rw [h]; rfl
theorem anc_step {L : List S5} (hw : Wf L) {k : Nat} {x : S5} (h : L[k]? = some x) : ∃ R, anc L k = k :: R ∧ Up L x.pr R := by
 have hp := prn_of h
 obtain ⟨h1, h2, _⟩ := hw k x h
 have hk := lt_of_get h
 rw [anc]
 refine ⟨_, rfl, ?_⟩
 by_cases h0 : 0 ≤ x.pr
 ·rw [dif_pos (by rw [hp]; omega)]
  exact Or.inr ⟨x.pr.toNat, by omega, by omega, by rw [hp]⟩
 ·rw [dif_neg (by rw [hp]; omega)]
  exact Or.inl ⟨by omega, rfl⟩
theorem Up.start {L : List S5} {k : Nat} (h : k < L.length) : Up L k (anc L k) := Or.inr ⟨k, rfl, h, rfl⟩
def tkn (L : List S5) (I : Nat → List (ByteArray × Int)) (s : Nat) (nm : ByteArray) : Bool := (anc L s).any (fun a => decide (nmO L a = nm) || (lk (I a) nm).isSome)
def fnd (L : List S5) (I : Nat → List (ByteArray × Int)) (s : Nat) (nm : ByteArray) : Bool := (anc L s).any (fun a => cbr ((lk (I a) nm).getD 0))
structure Al where
 T : List (ByteArray × Int)
 I : Nat → List (ByteArray × Int)
 K : Nat → List (ByteArray × Int)
def kno (L : List S5) (A : Al) (s : Nat) (x : Ex) : Bool :=
 if x.k = 2 then fnd L A.I s x.nm
 else if x.k = 10 then (lk (A.K s) x.se).isSome && (decide (x.op = 16) || cbr ((lk (A.I ((lk (A.K s) x.se).getD 0).toNat) x.nm).getD 0))
 else if x.k = 8 then (lk A.T x.nm).isSome else true
def lck (f : Ex → Bool) : Ex → Bool
 | .mk k op nm se v sc po pa cap args => !f (.mk k op nm se v sc po pa cap args) || args.attach.any (fun a => have := a.2; lck f a.1)
theorem lck_eq (f : Ex → Bool) : ∀ x : Ex, lck f x = (!f x || x.args.any (lck f))
 | .mk k op nm se v sc po pa cap args => by
  rw [lck]
  have e : args.any (lck f) = args.attach.any (fun a => lck f a.1) := by
   conv => lhs; rw [← List.attach_map_subtype_val args, List.any_map]
   rfl
  show _ = (_ || args.any (lck f))
  rw [e]
/-! A checker. -/
abbrev mpc (b : Nat) : List Value := [.map (some b)]
structure Zc where
 cb : Nat
 d : Df
 L : List S5
 sp : Option Addr
 sc : Nat
 tb : Nat
 MI : List Nat
 ip : Option Addr
 ic : Nat
 KI : List Nat
 kp : Option Addr
 kc : Nat
def Zc.cells (z : Zc) : List Value := [.string z.d.nm, .string z.d.rt.nm, .int .i64 z.d.rt.mx, .slice z.d.rt.pi z.d.rt.items.length z.d.rt.ci, .slice z.d.rt.pk z.d.rt.kids.length z.d.rt.ck, .slice z.d.pt z.d.tb.length z.d.ct, .slice z.d.pp z.d.pg.length z.d.cp, .slice z.sp z.L.length z.sc, .map (some z.tb), .slice z.ip z.MI.length z.ic, .slice z.kp z.KI.length z.kc]
structure CK (w : World) (z : Zc) (A : Al) : Prop where
 at' : At w z.cb z.cells
 df : LDf w z.d
 ls : SL w 5 S5.cells z.sp z.L
 l5 : ∀ x ∈ z.L, LS5 w x
 mi : SL w 1 mpc z.ip z.MI
 ki : SL w 1 mpc z.kp z.KI
 lm : z.MI.length = z.L.length
 lk : z.KI.length = z.L.length
 om : OM w z.tb A.T
 oi : ∀ i b, z.MI[i]? = some b → OM w b (A.I i)
 ok : ∀ i b, z.KI[i]? = some b → OM w b (A.K i)
 nd : (z.tb :: (z.MI ++ z.KI)).Nodup
 wf : Wf z.L
 kr : ∀ i p, p ∈ A.K i → 0 ≤ p.2 ∧ p.2 < z.L.length
variable {w w' : World} {z : Zc} {A : Al}
theorem CK.mo (h : CK w z A) (m : Mo w w') : CK w' z A :=
 ⟨h.at'.mo m, h.df.kp m.kp, h.ls.kp m.kp, fun x hx => (h.l5 x hx).kp m.kp, h.mi.kp m.kp, h.ki.kp m.kp, h.lm, h.lk, h.om.mo m, fun i b e => (h.oi i b e).mo m, fun i b e => (h.ok i b e).mo m, h.nd, h.wf, h.kr⟩
theorem CK.rw (h : CK w z A) : Rw w z.cb 0 z.cells := ⟨h.at'.2.2, h.at'.1⟩
def Zc.D (z : Zc) (k : Nat) : Prop := k ∈ z.tb :: (z.MI ++ z.KI)
theorem Zc.dt : z.D z.tb := List.mem_cons_self ..
theorem Zc.di {i b : Nat} (h : z.MI[i]? = some b) : z.D b := List.mem_cons_of_mem _ (List.mem_append_left _ (List.mem_of_getElem? h))
theorem Zc.dk {i b : Nat} (h : z.KI[i]? = some b) : z.D b := List.mem_cons_of_mem _ (List.mem_append_right _ (List.mem_of_getElem? h))
def upF (f : Nat → List (ByteArray × Int)) (i : Nat) (v : List (ByteArray × Int)) (j : Nat) : List (ByteArray × Int) := if j = i then v else f j
theorem upF_same (f : Nat → List (ByteArray × Int)) (i : Nat) (v : List (ByteArray × Int)) : upF f i v i = v := if_pos rfl
theorem upF_ne (f : Nat → List (ByteArray × Int)) {i j : Nat} (v : List (ByteArray × Int)) (h : j ≠ i) : upF f i v j = f j := if_neg h
theorem OM.keep {b : Nat} {al : List (ByteArray × Int)} (hb : OM w b al) (m : Mk (fun j => j = b) w w') : Kp w w' := m.kp (fun k e o => by rw [e]; exact hb.nocell o)
theorem nodup_get {α : Type} {L : List α} (h : L.Nodup) {i j : Nat} {a : α} (hi : L[i]? = some a) (hj : L[j]? = some a) : i = j := by
 obtain ⟨h1, e1⟩ := List.getElem?_eq_some_iff.1 hi
 obtain ⟨h2, e2⟩ := List.getElem?_eq_some_iff.1 hj
 have hp := List.pairwise_iff_getElem.1 h
 rcases Nat.lt_trichotomy i j with q | q | q
 ·exact absurd (e1.trans e2.symm) (hp i j h1 h2 q)
 ·exact q
 ·exact absurd (e2.trans e1.symm) (hp j i h2 h1 q)
theorem CK.putT (h : CK w z A) {al : List (ByteArray × Int)} (hO : OM w' z.tb al) (m : Mk (fun j => j = z.tb) w w') : CK w' z ⟨al, A.I, A.K⟩ := by
 have k := h.om.keep m
 have hn := List.nodup_cons.1 h.nd
 exact ⟨h.at'.kp k m.fz, h.df.kp k, h.ls.kp k, fun x hx => (h.l5 x hx).kp k, h.mi.kp k, h.ki.kp k, h.lm, h.lk, hO, fun i b e => (h.oi i b e).mk m (fun q => hn.1 (by rw [← q]; exact List.mem_append_left _ (List.mem_of_getElem? e))), fun i b e => (h.ok i b e).mk m (fun q => hn.1 (by rw [← q]; exact List.mem_append_right _ (List.mem_of_getElem? e))), h.nd, h.wf, h.kr⟩
theorem CK.putI (h : CK w z A) {i b : Nat} (hb : z.MI[i]? = some b) {al : List (ByteArray × Int)} (hO : OM w' b al) (m : Mk (fun j => j = b) w w') : CK w' z ⟨A.T, upF A.I i al, A.K⟩ := by
 have k := (h.oi i b hb).keep m
 have hn := List.nodup_cons.1 h.nd
 have hn2 := List.nodup_append.1 hn.2
 have hbm := List.mem_of_getElem? hb
 refine ⟨h.at'.kp k m.fz, h.df.kp k, h.ls.kp k, fun x hx => (h.l5 x hx).kp k, h.mi.kp k, h.ki.kp k, h.lm, h.lk, h.om.mk m (fun q => hn.1 (by rw [q]; exact List.mem_append_left _ hbm)), fun j c e => ?_, fun j c e => (h.ok j c e).mk m (fun q => hn2.2.2 b hbm c (List.mem_of_getElem? e) q.symm), h.nd, h.wf, h.kr⟩
 by_cases hj : j = i
 ·subst hj
  have : c = b := Option.some.inj (e.symm.trans hb)
  subst this
  show OM w' c (upF A.I j al j)
  rw [upF_same]; exact hO
 ·show OM w' c (upF A.I i al j)
  rw [upF_ne _ _ hj]
  exact (h.oi j c e).mk m (fun q => hj (nodup_get hn2.1 e (by rw [q]; exact hb)))
theorem CK.putK (h : CK w z A) {i b : Nat} (hb : z.KI[i]? = some b) {s : ByteArray} {v : Int} (hv : 0 ≤ v ∧ v < z.L.length) (hO : OM w' b ((s, v) :: A.K i)) (m : Mk (fun j => j = b) w w') : CK w' z ⟨A.T, A.I, upF A.K i ((s, v) :: A.K i)⟩ := by
 have k := (h.ok i b hb).keep m
 have hn := List.nodup_cons.1 h.nd
 have hn2 := List.nodup_append.1 hn.2
 have hbm := List.mem_of_getElem? hb
 refine ⟨h.at'.kp k m.fz, h.df.kp k, h.ls.kp k, fun x hx => (h.l5 x hx).kp k, h.mi.kp k, h.ki.kp k, h.lm, h.lk, h.om.mk m (fun q => hn.1 (by rw [q]; exact List.mem_append_right _ hbm)), fun j c e => (h.oi j c e).mk m (fun q => hn2.2.2 c (List.mem_of_getElem? e) b hbm q), fun j c e => ?_, h.nd, h.wf, fun j p hp => ?_⟩
 ·by_cases hj : j = i
  ·subst hj
   have : c = b := Option.some.inj (e.symm.trans hb)
   subst this
   show OM w' c (upF A.K j _ j)
   rw [upF_same]; exact hO
  ·show OM w' c (upF A.K i _ j)
   rw [upF_ne _ _ hj]
   exact (h.ok j c e).mk m (fun q => hj (nodup_get hn2.2.1 e (by rw [q]; exact hb)))
 ·by_cases hj : j = i
  ·subst hj
   rw [show (⟨A.T, A.I, upF A.K j ((s, v) :: A.K j)⟩ : Al).K j = (s, v) :: A.K j from upF_same _ _ _] at hp
   rcases List.mem_cons.1 hp with e | hp
   ·rw [e]; exact hv
   ·exact h.kr j p hp
  ·rw [show (⟨A.T, A.I, upF A.K i ((s, v) :: A.K i)⟩ : Al).K j = A.K j from upF_ne _ _ hj] at hp
   exact h.kr j p hp
theorem CK.other (h : CK w z A) {b : Nat} {al : List (ByteArray × Int)} (hO : OM w b al) (hb : ¬ z.D b) (m : Mk (fun j => j = b) w w') : CK w' z A := by
 have k := hO.keep m
 refine ⟨h.at'.kp k m.fz, h.df.kp k, h.ls.kp k, fun x hx => (h.l5 x hx).kp k, h.mi.kp k, h.ki.kp k, h.lm, h.lk, h.om.mk m (fun q => hb (by rw [← q]; exact Zc.dt)), fun i c e => (h.oi i c e).mk m (fun q => hb (by rw [← q]; exact Zc.di e)), fun i c e => (h.ok i c e).mk m (fun q => hb (by rw [← q]; exact Zc.dk e)), h.nd, h.wf, h.kr⟩
theorem CK.dlt (h : CK w z A) {k : Nat} (hk : z.D k) : k < w.heap.size := by
 rcases List.mem_cons.1 hk with e | hk
 ·rw [e]; exact h.om.lt
 ·rcases List.mem_append.1 hk with hk | hk
  ·obtain ⟨i, hi⟩ := List.getElem?_of_mem hk; exact (h.oi i k hi).lt
  ·obtain ⟨i, hi⟩ := List.getElem?_of_mem hk; exact (h.ok i k hi).lt
theorem lk_mem {al : List (ByteArray × Int)} {s : ByteArray} {k : Int} (h : Go.Proofs.YtnffhcjmpjajlaaDoor.lk al s = some k) : ∃ p ∈ al, p.2 = k := by
 unfold Go.Proofs.YtnffhcjmpjajlaaDoor.lk at h
 obtain ⟨p, hp, e⟩ := Option.map_eq_some_iff.1 h
 exact ⟨p, List.mem_of_find?_eq_some hp, e⟩
end Go.Proofs.YtnffhcjmpjajlaaDoor


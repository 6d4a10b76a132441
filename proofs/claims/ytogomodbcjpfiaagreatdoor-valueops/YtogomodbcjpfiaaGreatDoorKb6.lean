/-
  A part of the proof.
-/
import Derived.Test.YtogomodbcjpfiaaGreatDoorKa16
import Derived.Test.YtogomodbcjpfiaaGreatDoorKa15
import Derived.Test.YtogomodbcjpfiaaGreatDoorKa14
import Derived.Test.YtogomodbcjpfiaaGreatDoorKa1
import Derived.Shelf.Strings.Builder1
import Derived.Shelf.Strings.Builder2
import Derived.Shelf.Small.Bits
import Derived.Shelf.Small.Wraps
import Derived.Shelf.Strings.BuilderF
import Derived.Shelf.Strings.BuilderK
import Derived.Shelf.Strings.Prefix
import Derived.Shelf.Bits.Mul64
import Derived.Shelf.Strings.Repeat
import Derived.Test.YtogomodbcjpfiaaGreatDoorProg
import Derived.Shelf.Strconv.Itoa0
import Derived.Test.YtogomodbcjpfiaaGreatDoorKb5
import Derived.Test.YtogomodbcjpfiaaGreatDoorKb4
import Derived.Test.YtogomodbcjpfiaaGreatDoorKb3
import Derived.Test.YtogomodbcjpfiaaGreatDoorKa11
import Derived.Test.YtogomodbcjpfiaaGreatDoorKa9
import Derived.Test.YtogomodbcjpfiaaGreatDoorKa4
import Derived.Test.YtogomodbcjpfiaaGreatDoorKb1
import Derived.Test.YtogomodbcjpfiaaGreatDoorKa3
import Derived.Test.YtogomodbcjpfiaaGreatDoorKa2
import Derived.RegionTactic
import Derived.WalkKit
import Derived.WalkSpells
import Derived.Handy
import Derived.BigQuiet
import Derived.Deep.RegionHeld3
import Derived.Deep.MidRow
import Derived.BigCall
import Derived.Test.YtogomodbcjpfiaaGreatDoorKa8
import Derived.Test.YtogomodbcjpfiaaGreatDoorKb2
import Derived.Test.YtogomodbcjpfiaaGreatDoorKa5
import Derived.Deep.CutBlock
import Derived.Deep.CutRange
import Derived.Test.YtogomodbcjpfiaaGreatDoorKa7
import Derived.Test.YtogomodbcjpfiaaGreatDoorKa6
import Derived.ChangeKeysEq
import Derived.ScopeJumps
import Derived.WalkMore
import Derived.Laws.StructEq
import Derived.Test.YtogomodbcjpfiaaGreatDoorKa10
import Derived.Test.YtogomodbcjpfiaaGreatDoorKa13
import Derived.Test.YtogomodbcjpfiaaGreatDoorKa12
import Derived.Lib.CutLaws
import Derived.Lib.IndexBytes
import Derived.Test.YtogomodbcjpfiaaGreatDoorKa17
import Derived.Maps.OwnSet
import Derived.WalkArith
import Derived.StringKeys
namespace Go.Proofs.YtogomodbcjpfiaaGreatDoor.V
open Go.RowKit
section
variable {P : Program} {ops : List Oper} {Q : Exit → Act → World → Prop} {n : Nat} {l : List (Nat × Value)}
variable {o : Oper} {w : World} {K : Act → World → Prop}
theorem lp1 {i : Nat} {a b : Value} (h : a = b) : [(i, a)] = [(i, b)] := by rw [h]
theorem lp3 {i j q : Nat} {a b c d e f : Value} (h : a = b) (k : c = d) (m : e = f) : [(i, a), (j, c), (q, e)] = [(i, b), (j, d), (q, f)] := by rw [h, k, m]
end
end Go.Proofs.YtogomodbcjpfiaaGreatDoor.V

namespace Go.Proofs.YtogomodbcjpfiaaGreatDoor.V
open Go.RowKit
section
variable {P : Program} {o : Oper} {n : Nat} {l : List (Nat × Value)} {w : World} {ops : Array Oper} {rest : List Oper} {Q : Exit → Act → World → Prop} {K : Act → World → Prop}
theorem wo_pick (c x y : Operand) (t : Bool) (v : Value) (ho : ∀ ρ, execOp ρ o = (do pure (.value (if ← asBool (ρ c) then ρ x else ρ y)))) (hc : evl n l c = .bool t) (hv : evl n l (bif t then x else y) = v) (hk : K (fr n (ext l o.dst v)) w) : WO P o n l w K Q := ⟨o_pick c x y t v ho hc hv hk⟩
theorem wo_build (t : TypeId) (xs : List (Nat × Operand)) (ps : List (Nat × Value)) (v : Value) (ho : o.op = .build t xs.toArray) (hx : xs.map (fun p => (p.1, evl n l p.2)) = ps) (h : (Instr.build t ps.toArray).run P w = .ok v w) (hk : K (fr n (ext l o.dst v)) w) : WO P o n l w K Q := ⟨o_build t xs ps v ho hx h hk⟩
theorem go_pass {ol : List Oper} (hg : wnt n l ol.toArray o = false) (h : K (fr n (ext l o.dst undef)) w) : Go1 P ol Q n l w K o := ⟨Or.inr ⟨hg, h⟩⟩
end
end Go.Proofs.YtogomodbcjpfiaaGreatDoor.V

namespace Go.Proofs.YtogomodbcjpfiaaGreatDoor
open Go.RowKit
theorem svv_bl {x : VL} (h : ¬ x.k = 0) : svv x vBl = false := by simp [svv, svl, vBl, h]
theorem ask_isE {v : VL} (h : v.ok) (a : ask v ≠ 0) : isE (ask v) = true := by
 unfold ask at a ⊢
 split
 next c =>
  rw [if_pos c] at a
  split
  next k => exact (ckv_err h c k).2
  next k =>
   rw [if_neg k] at a
   split
   next => rfl
   next q => rw [if_neg q] at a; exact absurd rfl a
 next => rfl
def mayV (x : VL) : VL := if ckv x then x else vBad 2
end Go.Proofs.YtogomodbcjpfiaaGreatDoor

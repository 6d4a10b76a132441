/-
  A part of the proof.
-/
import Derived.Test.YtogomodbcjpfiaaGreatDoorKa2
import Derived.Test.YtogomodbcjpfiaaGreatDoorKa1
import Derived.RegionTactic
import Derived.Test.YtogomodbcjpfiaaGreatDoorKb1
import Derived.Test.YtogomodbcjpfiaaGreatDoorProg
import Derived.WalkKit
import Derived.WalkSpells
import Derived.Handy
import Derived.BigQuiet
import Derived.Deep.RegionHeld3
import Derived.Deep.MidRow
import Derived.BigCall
import Derived.Test.YtogomodbcjpfiaaGreatDoorKa4
import Derived.Test.YtogomodbcjpfiaaGreatDoorKa3
import Derived.Test.YtogomodbcjpfiaaGreatDoorKa12
import Derived.Test.YtogomodbcjpfiaaGreatDoorKa9
import Derived.Test.YtogomodbcjpfiaaGreatDoorKa8
import Derived.Test.YtogomodbcjpfiaaGreatDoorKb3
import Derived.Test.YtogomodbcjpfiaaGreatDoorKb2
import Derived.Test.YtogomodbcjpfiaaGreatDoorKa5
import Derived.Shelf.Small.Bits
import Derived.Shelf.Strconv.Itoa0
import Derived.Shelf.Bits.Mul64
import Derived.Deep.CutBlock
import Derived.Deep.CutRange
import Derived.Test.YtogomodbcjpfiaaGreatDoorKa7
import Derived.Test.YtogomodbcjpfiaaGreatDoorKa6
import Derived.ChangeKeysEq
import Derived.ScopeJumps
import Derived.WalkMore
import Derived.Laws.StructEq
import Derived.Test.YtogomodbcjpfiaaGreatDoorKa13
import Derived.Test.YtogomodbcjpfiaaGreatDoorKa14
import Derived.Test.YtogomodbcjpfiaaGreatDoorKa11
import Derived.Test.YtogomodbcjpfiaaGreatDoorKa10
import Derived.Test.YtogomodbcjpfiaaGreatDoorKb4
import Derived.Test.YtogomodbcjpfiaaGreatDoorKb5
import Derived.Test.YtogomodbcjpfiaaGreatDoorKa15
import Derived.Shelf.Strings.Builder1
import Derived.Shelf.Strings.Builder2
import Derived.Shelf.Small.Wraps
import Derived.Shelf.Strings.BuilderF
import Derived.Shelf.Strings.BuilderK
import Derived.Shelf.Strings.Prefix
import Derived.Shelf.Strings.Repeat
import Derived.Lib.CutLaws
import Derived.Lib.IndexBytes
import Derived.Test.YtogomodbcjpfiaaGreatDoorKa17
import Derived.Test.YtogomodbcjpfiaaGreatDoorKb6
import Derived.Test.YtogomodbcjpfiaaGreatDoorKa16
import Derived.Maps.OwnSet
import Derived.WalkArith
import Derived.StringKeys
import Derived.Test.YtogomodbcjpfiaaGreatDoorKa18
import Derived.Test.YtogomodbcjpfiaaGreatDoorKa19
import Derived.Maps.AppendAt
import Derived.Deep.AppendLies
import Derived.Laws.BytesString
import Derived.Test.YtogomodbcjpfiaaGreatDoorKa20
import Derived.Test.YtogomodbcjpfiaaGreatDoorKa21
import Derived.Test.YtogomodbcjpfiaaGreatDoorKb7
namespace Go.Proofs.YtogomodbcjpfiaaGreatDoor
open Go.RowKit
section runs
variable {P : Program} {w : World} {k : Nat} {vs : List Value}
theorem run_put1 (h : At w k vs) (ty : TypeId) (o : Nat) (v : Value) (hl : o < vs.length) (hi : (P.info? ty).map (·.size) = some 1) (hv : v.cells = #[v]) (h1 : v.oneCell' = true) :
  (Instr.storeAt ty (pt k o) v).run P w = .ok () (w.setCells k o [v]) := by
 have ht := h.there o 1 (by omega)
 have := run_storeCells_cells (P := P) k o [v] 0 w (fun j hj => by simpa using (ht j (by simpa using hj)).1) (fun j hj => by simpa using (ht j (by simpa using hj)).2)
  (fun u hu => by simp at hu; subst hu; exact h1)
 cases hq : P.info? ty with
 | none => simp [hq] at hi
 | some i =>
  have hs : i.size = 1 := by simpa [hq] using hi
  simp only [Nat.add_zero] at this
  simp [Instr.storeAt, Instr.sureAddr, storeVar, sizeOf, typeInfo, hq, hv, hs, this]
end runs
/-! Frames as lists of what was put where, the last first. -/
/-! The laws of the steps. -/
section steps
variable {P : Program} {o : Oper} {n : Nat} {l : List (Nat × Value)} {w : World} {ops : Array Oper} {rest : List Oper} {Q : Exit → Act → World → Prop} {K : Act → World → Prop}
theorem o_st1 (ty : TypeId) (x y : Operand) (k off : Nat) (v : Value) (vs vs' : List Value) (hA : At w k vs) (ho : o.op = .store ty x y) (hd : o.dst = none) (hx : evl n l x = pt k off) (hy : evl n l y = v)
  (hl : Nat.blt off vs.length = true) (hi : (P.info? ty).map (·.size) = some 1) (hv : v.cells = #[v]) (h1 : v.oneCell' = true) (hvs : vs' = vs.take off ++ [v] ++ vs.drop (off + 1))
  (hk : ∀ w', St k w w' → At w' k vs' → K (fr n l) w') : o.wp P (fr n l) w K Q :=
 have hl' : off < vs.length := by rw [Nat.blt_eq] at hl; exact hl
 o_store ty x y _ _ ho hd hx hy (run_put1 hA ty off v hl' hi hv h1) (hk _ (St.mk' w k off [v]) (hA.set off [v] (by simp; omega) vs' hvs))
end steps
end Go.Proofs.YtogomodbcjpfiaaGreatDoor

namespace Go.Proofs.YtogomodbcjpfiaaGreatDoor
open Go.RowKit
section
variable {P : Program} {o : Oper} {n : Nat} {l : List (Nat × Value)} {w : World} {ops : Array Oper} {rest : List Oper} {Q : Exit → Act → World → Prop} {K : Act → World → Prop}
theorem wo_val (v : Value) (h : (execOp (evl n l) o).run P w = .ok (.value v) w) (hk : K (fr n (ext l o.dst v)) w) : WO P o n l w K Q := ⟨o_val v h hk⟩
theorem wo_bin (F : Value → Value → Sem Value) (x y : Operand) (p q v : Value) (ho : ∀ ρ, execOp ρ o = (do pure (.value (← F (ρ x) (ρ y))))) (hx : evl n l x = p) (hy : evl n l y = q) (h : (F p q).run P w = .ok v w) (hk : K (fr n (ext l o.dst v)) w) : WO P o n l w K Q := ⟨o_bin F x y p q v ho hx hy h hk⟩
theorem wl_st1 (ty : TypeId) (x y : Operand) (k off : Nat) (v : Value) (vs vs' : List Value) (hA : At w k vs) (ho : o.op = .store ty x y) (hd : o.dst = none) (hx : evl n l x = pt k off) (hy : evl n l y = v)
  (hl : Nat.blt off vs.length = true) (hi : (P.info? ty).map (·.size) = some 1) (hv : v.cells = #[v]) (h1 : v.oneCell' = true) (hvs : vs' = vs.take off ++ [v] ++ vs.drop (off + 1)) (hg : wnt n l ops o = true)
  (hk : ∀ w', St k w w' → At w' k vs' → WL P ops Q rest n l w') : WL P ops Q (o :: rest) n l w :=
 ⟨l_step hg (o_st1 ty x y k off v vs vs' hA ho hd hx hy hl hi hv h1 hvs (fun w' a b => (hk w' a b).out))⟩
theorem la_mv (x : Operand) (p : Value) (ho : ∀ ρ, execOp ρ o = pure (.value (ρ x))) (hx : evl n l x = p) : ∀ w, (execOp (evl n l) o).run P w = .ok (.value p) w := fun w => by rw [ho, hx]; rfl
theorem late_cons {ol : List Oper} {m : Nat} {sp : List Sp} {j : Nat} {r : List Nat} (h : LateO P ol Q n l m sp j) (k : ∀ i, i ∈ r → LateO P ol Q n l m sp i) : ∀ i, i ∈ j :: r → LateO P ol Q n l m sp i := fun i hi => by
 rcases List.mem_cons.1 hi with rfl | hi
 ·exact h
 ·exact k i hi
end
end Go.Proofs.YtogomodbcjpfiaaGreatDoor

namespace Go.Proofs.YtogomodbcjpfiaaGreatDoor
open Go.RowKit
theorem cr_no (s p : Int) (w : World) (h : sc s = false) : Calls Tryz.prog 90 #[.int .i64 s, .int .i64 p] w fun e w' => e = .returned (.int .i64 21) ∧ Mo w w' := by
 go_enter Tryz.func90, Tryz.ntmps90
 go_wp2_with fail
 refine (isScale_n s _).mono ?_
 rintro e w1 ⟨rfl, hm1⟩
 go_wp2
 go_ret
 exact ⟨rfl, hm1⟩
set_option maxHeartbeats 4000000 in
theorem cr_pol (s p : Int) (w : World) (h : sc s = true) (hp : p < 1 ∨ 5 < p) : Calls Tryz.prog 90 #[.int .i64 s, .int .i64 p] w fun e w' => e = .returned (.int .i64 22) ∧ Mo w w' := by
 have h1 : (p == 1) = false := by simp; omega
 have h2 : (p == 2) = false := by simp; omega
 have h3 : (p == 3) = false := by simp; omega
 have h4 : (p == 4) = false := by simp; omega
 have h5 : (p == 5) = false := by simp; omega
 clear hp
 go_enter Tryz.func90, Tryz.ntmps90
 go_wp2_with fail
 refine (isScale_n s _).mono ?_
 rintro e w1 ⟨rfl, hm1⟩
 go_wp2
 go_ret
 exact ⟨rfl, hm1⟩
end Go.Proofs.YtogomodbcjpfiaaGreatDoor

namespace Go.Proofs.YtogomodbcjpfiaaGreatDoor
open Go.RowKit
set_option maxHeartbeats 4000000 in
theorem mulTo_e2 (b c : Bool) (n m s t S p : Int) (w : World) (hn0 : 0 ≤ n) (hn : n < MM) (hm0 : 0 ≤ m) (hm : m < MM) (h1 : ck b n s = 0) (h2 : ck c m t = 0) (hS : sc S = false) :
  Calls Tryz.prog 61 #[dc b n s, dc c m t, .int .i64 S, .int .i64 p] w fun e w' => e = .returned (er 21) ∧ Mo w w' := by
 go_enter Tryz.func61, Tryz.ntmps61
 go_wp2_with fail
 refine (both_ok b n s c m t _ hn0 hn hm0 hm h1 h2).mono ?_
 rintro e w1 ⟨rfl, hm1⟩
 have mz : Mo w w1 := Mo.trans (by repeat (first | with_reducible exact Mo.refl _ | with_reducible apply Mo.drew | with_reducible apply Mo.alloc)) hm1
 have M := mz
 have Qa : AtD w1 (w.heap.size) b n s := AtD.mo ⟨by simp [go_sem], fun o => by simp [go_sem], by simp <;> omega⟩ hm1
 have Qb : AtD w1 (w.heap.size + 1) c m t := AtD.mo ⟨by simp [go_sem], fun o => by simp [go_sem], by simp <;> omega⟩ hm1
 have Qr : AtD w1 (w.heap.size + 1 + 1) false 0 0 := AtD.mo ⟨by simp [go_sem, zl0, zl1, zl2, zl3], fun o => by simp [go_sem], by simp <;> omega⟩ hm1
 clear hm1 mz
 have Oa := Qa
 obtain ⟨⟨ca0, ca1, ca2, ca3, ca4, ca5⟩, fa, sa⟩ := Oa
 have fa := fun o => fa o
 have sxa : w.heap.size < w1.heap.size + 1 := by omega
 have sya : w.heap.size < w1.heap.size + 1 + 1 := by omega
 have Ob := Qb
 obtain ⟨⟨cb0, cb1, cb2, cb3, cb4, cb5⟩, fb, sb⟩ := Ob
 have fb := fun o => fb o
 have sxb : w.heap.size + 1 < w1.heap.size + 1 := by omega
 have syb : w.heap.size + 1 < w1.heap.size + 1 + 1 := by omega
 have Or := Qr
 obtain ⟨⟨cr0, cr1, cr2, cr3, cr4, cr5⟩, fr, sr⟩ := Or
 have fr := fun o => fr o
 have sxr : w.heap.size + 1 + 1 < w1.heap.size + 1 := by omega
 have syr : w.heap.size + 1 + 1 < w1.heap.size + 1 + 1 := by omega
 go_wp2_with fail
 refine (cr_no S p _ hS).mono ?_
 rintro e w2 ⟨rfl, hm2⟩
 have mz : Mo w1 w2 := Mo.trans (by repeat (first | with_reducible exact Mo.refl _ | with_reducible apply Mo.drew | with_reducible apply Mo.alloc)) hm2
 have zw1a := sa
 have zw1b := sb
 have zw1r := sr
 clear ca0 ca1 ca2 ca3 ca4 ca5 fa sa sxa sya cb0 cb1 cb2 cb3 cb4 cb5 fb sb sxb syb cr0 cr1 cr2 cr3 cr4 cr5 fr sr sxr syr
 have Qa := Qa.mo mz
 have Qb := Qb.mo mz
 have Qr := Qr.mo mz
 have M := M.trans mz
 clear hm2 mz
 have Oa := Qa
 obtain ⟨⟨ca0, ca1, ca2, ca3, ca4, ca5⟩, fa, sa⟩ := Oa
 have fa := fun o => fa o
 have sxa : w.heap.size < w2.heap.size + 1 := by omega
 have sya : w.heap.size < w2.heap.size + 1 + 1 := by omega
 have Ob := Qb
 obtain ⟨⟨cb0, cb1, cb2, cb3, cb4, cb5⟩, fb, sb⟩ := Ob
 have fb := fun o => fb o
 have sxb : w.heap.size + 1 < w2.heap.size + 1 := by omega
 have syb : w.heap.size + 1 < w2.heap.size + 1 + 1 := by omega
 have Or := Qr
 obtain ⟨⟨cr0, cr1, cr2, cr3, cr4, cr5⟩, fr, sr⟩ := Or
 have fr := fun o => fr o
 have sxr : w.heap.size + 1 + 1 < w2.heap.size + 1 := by omega
 have syr : w.heap.size + 1 + 1 < w2.heap.size + 1 + 1 := by omega
 go_wp2
 refine bodyPost_ret (v := er 21) (by simp [results, Tryz.results61, go_sem, *]) rfl ?_
 refine ⟨rfl, ?_⟩
 repeat (first | with_reducible exact M | with_reducible exact Mo.refl _ | with_reducible apply Mo.drew | with_reducible apply Mo.drewN | with_reducible apply Mo.alloc | with_reducible refine Mo.setCell ?_ (by simp <;> omega) _)
set_option maxHeartbeats 4000000 in
theorem mulTo_e3 (b c : Bool) (n m s t S p : Int) (w : World) (hn0 : 0 ≤ n) (hn : n < MM) (hm0 : 0 ≤ m) (hm : m < MM) (h1 : ck b n s = 0) (h2 : ck c m t = 0) (hS : sc S = true) (hp : p < 1 ∨ 5 < p) :
  Calls Tryz.prog 61 #[dc b n s, dc c m t, .int .i64 S, .int .i64 p] w fun e w' => e = .returned (er 22) ∧ Mo w w' := by
 go_enter Tryz.func61, Tryz.ntmps61
 go_wp2_with fail
 refine (both_ok b n s c m t _ hn0 hn hm0 hm h1 h2).mono ?_
 rintro e w1 ⟨rfl, hm1⟩
 have mz : Mo w w1 := Mo.trans (by repeat (first | with_reducible exact Mo.refl _ | with_reducible apply Mo.drew | with_reducible apply Mo.alloc)) hm1
 have M := mz
 have Qa : AtD w1 (w.heap.size) b n s := AtD.mo ⟨by simp [go_sem], fun o => by simp [go_sem], by simp <;> omega⟩ hm1
 have Qb : AtD w1 (w.heap.size + 1) c m t := AtD.mo ⟨by simp [go_sem], fun o => by simp [go_sem], by simp <;> omega⟩ hm1
 have Qr : AtD w1 (w.heap.size + 1 + 1) false 0 0 := AtD.mo ⟨by simp [go_sem, zl0, zl1, zl2, zl3], fun o => by simp [go_sem], by simp <;> omega⟩ hm1
 clear hm1 mz
 have Oa := Qa
 obtain ⟨⟨ca0, ca1, ca2, ca3, ca4, ca5⟩, fa, sa⟩ := Oa
 have fa := fun o => fa o
 have sxa : w.heap.size < w1.heap.size + 1 := by omega
 have sya : w.heap.size < w1.heap.size + 1 + 1 := by omega
 have Ob := Qb
 obtain ⟨⟨cb0, cb1, cb2, cb3, cb4, cb5⟩, fb, sb⟩ := Ob
 have fb := fun o => fb o
 have sxb : w.heap.size + 1 < w1.heap.size + 1 := by omega
 have syb : w.heap.size + 1 < w1.heap.size + 1 + 1 := by omega
 have Or := Qr
 obtain ⟨⟨cr0, cr1, cr2, cr3, cr4, cr5⟩, fr, sr⟩ := Or
 have fr := fun o => fr o
 have sxr : w.heap.size + 1 + 1 < w1.heap.size + 1 := by omega
 have syr : w.heap.size + 1 + 1 < w1.heap.size + 1 + 1 := by omega
 go_wp2_with fail
 refine (cr_pol S p _ hS hp).mono ?_
 rintro e w2 ⟨rfl, hm2⟩
 have mz : Mo w1 w2 := Mo.trans (by repeat (first | with_reducible exact Mo.refl _ | with_reducible apply Mo.drew | with_reducible apply Mo.alloc)) hm2
 have zw1a := sa
 have zw1b := sb
 have zw1r := sr
 clear ca0 ca1 ca2 ca3 ca4 ca5 fa sa sxa sya cb0 cb1 cb2 cb3 cb4 cb5 fb sb sxb syb cr0 cr1 cr2 cr3 cr4 cr5 fr sr sxr syr
 have Qa := Qa.mo mz
 have Qb := Qb.mo mz
 have Qr := Qr.mo mz
 have M := M.trans mz
 clear hm2 mz
 have Oa := Qa
 obtain ⟨⟨ca0, ca1, ca2, ca3, ca4, ca5⟩, fa, sa⟩ := Oa
 have fa := fun o => fa o
 have sxa : w.heap.size < w2.heap.size + 1 := by omega
 have sya : w.heap.size < w2.heap.size + 1 + 1 := by omega
 have Ob := Qb
 obtain ⟨⟨cb0, cb1, cb2, cb3, cb4, cb5⟩, fb, sb⟩ := Ob
 have fb := fun o => fb o
 have sxb : w.heap.size + 1 < w2.heap.size + 1 := by omega
 have syb : w.heap.size + 1 < w2.heap.size + 1 + 1 := by omega
 have Or := Qr
 obtain ⟨⟨cr0, cr1, cr2, cr3, cr4, cr5⟩, fr, sr⟩ := Or
 have fr := fun o => fr o
 have sxr : w.heap.size + 1 + 1 < w2.heap.size + 1 := by omega
 have syr : w.heap.size + 1 + 1 < w2.heap.size + 1 + 1 := by omega
 go_wp2
 refine bodyPost_ret (v := er 22) (by simp [results, Tryz.results61, go_sem, *]) rfl ?_
 refine ⟨rfl, ?_⟩
 repeat (first | with_reducible exact M | with_reducible exact Mo.refl _ | with_reducible apply Mo.drew | with_reducible apply Mo.drewN | with_reducible apply Mo.alloc | with_reducible refine Mo.setCell ?_ (by simp <;> omega) _)
end Go.Proofs.YtogomodbcjpfiaaGreatDoor

namespace Go.Proofs.YtogomodbcjpfiaaGreatDoor
open Go.RowKit
set_option maxHeartbeats 4000000 in
theorem rescale_ok (b : Bool) (n s S p : Int) (V : Int) (w : World) (hmt : ∀ w, Calls Tryz.prog 61 #[dc b n s, dc false 1 0, .int .i64 S, .int .i64 p] w fun e' w' => e' = .returned (.tuple #[dz V S, .int .i64 0]) ∧ Mo w w') :
  Calls Tryz.prog 51 #[dc b n s, .int .i64 S, .int .i64 p] w fun e' w' => e' = .returned (.tuple #[dz V S, .int .i64 0]) ∧ Mo w w' := by
 go_enter Tryz.func51, Tryz.ntmps51
 have a : Mo w ((((w).alloc (.cells #[.bool b, .int .u64 (l0 (n)), .int .u64 (l1 (n)), .int .u64 (l2 (n)), .int .u64 (l3 (n)), .int .i64 (s)] 26))).alloc (.cells #[.bool false, .int .u64 0, .int .u64 0, .int .u64 0, .int .u64 0, .int .i64 0] 26)) := by repeat (first | with_reducible exact Mo.refl _ | with_reducible apply Mo.alloc)
 have M := a
 have Qa : AtD ((((w).alloc (.cells #[.bool b, .int .u64 (l0 (n)), .int .u64 (l1 (n)), .int .u64 (l2 (n)), .int .u64 (l3 (n)), .int .i64 (s)] 26))).alloc (.cells #[.bool false, .int .u64 0, .int .u64 0, .int .u64 0, .int .u64 0, .int .i64 0] 26)) (w.heap.size) b n s := ⟨by simp [go_sem], fun o => by simp [go_sem], by simp <;> omega⟩
 have Qr : AtD ((((w).alloc (.cells #[.bool b, .int .u64 (l0 (n)), .int .u64 (l1 (n)), .int .u64 (l2 (n)), .int .u64 (l3 (n)), .int .i64 (s)] 26))).alloc (.cells #[.bool false, .int .u64 0, .int .u64 0, .int .u64 0, .int .u64 0, .int .i64 0] 26)) (w.heap.size + 1) false 0 0 := ⟨by simp [go_sem, zl0, zl1, zl2, zl3], fun o => by simp [go_sem], by simp <;> omega⟩
 clear a
 go_upto_region 1 with fail
 generalize ((((w).alloc (.cells #[.bool b, .int .u64 (l0 (n)), .int .u64 (l1 (n)), .int .u64 (l2 (n)), .int .u64 (l3 (n)), .int .i64 (s)] 26))).alloc (.cells #[.bool false, .int .u64 0, .int .u64 0, .int .u64 0, .int .u64 0, .int .i64 0] 26)) = W0 at *
 have Oa := Qa
 obtain ⟨⟨ca0, ca1, ca2, ca3, ca4, ca5⟩, fa, sa⟩ := Oa
 have fa := fun o => fa o
 have sxa : w.heap.size < W0.heap.size + 1 := by omega
 have sya : w.heap.size < W0.heap.size + 1 + 1 := by omega
 have Or := Qr
 obtain ⟨⟨cr0, cr1, cr2, cr3, cr4, cr5⟩, fr, sr⟩ := Or
 have fr := fun o => fr o
 have sxr : w.heap.size + 1 < W0.heap.size + 1 := by omega
 have syr : w.heap.size + 1 < W0.heap.size + 1 + 1 := by omega
 go_region_with
  (first | (go_at_call 72; refine (from20_any 1 _ ⟨by decide, by decide⟩).mono ?_; rintro e' w1 ⟨rfl, hm1⟩; have m1 : Mo W0 w1 := Mo.trans (by repeat (first | with_reducible exact Mo.refl _ | with_reducible apply Mo.drew | with_reducible apply Mo.alloc)) hm1; obtain ⟨⟨x0, x1, x2, x3, x4, x5⟩, _, xs⟩ := Qa.mo m1) | (go_at_call 61; refine (hmt _).mono ?_; rintro e' w2 ⟨rfl, hm2⟩; have m2 : Mo w1 w2 := Mo.trans (by repeat (first | with_reducible exact Mo.refl _ | with_reducible apply Mo.drew | with_reducible apply Mo.alloc)) hm2; have m3 := m1.trans m2; obtain ⟨⟨z0, z1, z2, z3, z4, z5⟩, zf, zs⟩ := Qr.mo m3; have zf := fun o => zf o))
 all_goals
  go_wp2
  have M := M.trans m3
  refine bodyPost_ret (v := .tuple #[dz V S, .int .i64 0]) (by simp [results, Tryz.results51, go_sem, *]) rfl ?_
  refine ⟨rfl, ?_⟩
  repeat (first | with_reducible exact M | with_reducible exact Mo.refl _ | with_reducible apply Mo.drew | with_reducible apply Mo.drewN | with_reducible apply Mo.alloc | with_reducible refine Mo.setCell ?_ (by simp <;> omega) _)
set_option maxHeartbeats 4000000 in
theorem rescale_er (b : Bool) (n s S p : Int) (e : Int) (w : World) (hmt : ∀ w, Calls Tryz.prog 61 #[dc b n s, dc false 1 0, .int .i64 S, .int .i64 p] w fun e' w' => e' = .returned (er e) ∧ Mo w w') :
  Calls Tryz.prog 51 #[dc b n s, .int .i64 S, .int .i64 p] w fun e' w' => e' = .returned (er e) ∧ Mo w w' := by
 go_enter Tryz.func51, Tryz.ntmps51
 have a : Mo w ((((w).alloc (.cells #[.bool b, .int .u64 (l0 (n)), .int .u64 (l1 (n)), .int .u64 (l2 (n)), .int .u64 (l3 (n)), .int .i64 (s)] 26))).alloc (.cells #[.bool false, .int .u64 0, .int .u64 0, .int .u64 0, .int .u64 0, .int .i64 0] 26)) := by repeat (first | with_reducible exact Mo.refl _ | with_reducible apply Mo.alloc)
 have M := a
 have Qa : AtD ((((w).alloc (.cells #[.bool b, .int .u64 (l0 (n)), .int .u64 (l1 (n)), .int .u64 (l2 (n)), .int .u64 (l3 (n)), .int .i64 (s)] 26))).alloc (.cells #[.bool false, .int .u64 0, .int .u64 0, .int .u64 0, .int .u64 0, .int .i64 0] 26)) (w.heap.size) b n s := ⟨by simp [go_sem], fun o => by simp [go_sem], by simp <;> omega⟩
 have Qr : AtD ((((w).alloc (.cells #[.bool b, .int .u64 (l0 (n)), .int .u64 (l1 (n)), .int .u64 (l2 (n)), .int .u64 (l3 (n)), .int .i64 (s)] 26))).alloc (.cells #[.bool false, .int .u64 0, .int .u64 0, .int .u64 0, .int .u64 0, .int .i64 0] 26)) (w.heap.size + 1) false 0 0 := ⟨by simp [go_sem, zl0, zl1, zl2, zl3], fun o => by simp [go_sem], by simp <;> omega⟩
 clear a
 go_upto_region 1 with fail
 generalize ((((w).alloc (.cells #[.bool b, .int .u64 (l0 (n)), .int .u64 (l1 (n)), .int .u64 (l2 (n)), .int .u64 (l3 (n)), .int .i64 (s)] 26))).alloc (.cells #[.bool false, .int .u64 0, .int .u64 0, .int .u64 0, .int .u64 0, .int .i64 0] 26)) = W0 at *
 have Oa := Qa
 obtain ⟨⟨ca0, ca1, ca2, ca3, ca4, ca5⟩, fa, sa⟩ := Oa
 have fa := fun o => fa o
 have sxa : w.heap.size < W0.heap.size + 1 := by omega
 have sya : w.heap.size < W0.heap.size + 1 + 1 := by omega
 have Or := Qr
 obtain ⟨⟨cr0, cr1, cr2, cr3, cr4, cr5⟩, fr, sr⟩ := Or
 have fr := fun o => fr o
 have sxr : w.heap.size + 1 < W0.heap.size + 1 := by omega
 have syr : w.heap.size + 1 < W0.heap.size + 1 + 1 := by omega
 go_region_with
  (first | (go_at_call 72; refine (from20_any 1 _ ⟨by decide, by decide⟩).mono ?_; rintro e' w1 ⟨rfl, hm1⟩; have m1 : Mo W0 w1 := Mo.trans (by repeat (first | with_reducible exact Mo.refl _ | with_reducible apply Mo.drew | with_reducible apply Mo.alloc)) hm1; obtain ⟨⟨x0, x1, x2, x3, x4, x5⟩, _, xs⟩ := Qa.mo m1) | (go_at_call 61; refine (hmt _).mono ?_; rintro e' w2 ⟨rfl, hm2⟩; have m2 : Mo w1 w2 := Mo.trans (by repeat (first | with_reducible exact Mo.refl _ | with_reducible apply Mo.drew | with_reducible apply Mo.alloc)) hm2; have m3 := m1.trans m2; obtain ⟨⟨z0, z1, z2, z3, z4, z5⟩, zf, zs⟩ := Qr.mo m3; have zf := fun o => zf o))
 all_goals
  go_wp2
  have M := M.trans m3
  refine bodyPost_ret (v := er e) (by simp [results, Tryz.results51, go_sem, *]) rfl ?_
  refine ⟨rfl, ?_⟩
  repeat (first | with_reducible exact M | with_reducible exact Mo.refl _ | with_reducible apply Mo.drew | with_reducible apply Mo.drewN | with_reducible apply Mo.alloc | with_reducible refine Mo.setCell ?_ (by simp <;> omega) _)
end Go.Proofs.YtogomodbcjpfiaaGreatDoor

namespace Go.Proofs.YtogomodbcjpfiaaGreatDoor
open Go.RowKit
theorem pw_pos (k : Int) : 0 < pw k := Int.pow_pos (by decide)
end Go.Proofs.YtogomodbcjpfiaaGreatDoor

namespace Go.Proofs.YtogomodbcjpfiaaGreatDoor
open Go.RowKit
theorem rescale_e2 (b : Bool) (n s S p : Int) (w : World) (hn0 : 0 ≤ n) (hn : n < MM) (h : ck b n s = 0) (hS : sc S = false) :
  Calls Tryz.prog 51 #[dc b n s, .int .i64 S, .int .i64 p] w fun e w' => e = .returned (er 21) ∧ Mo w w' :=
 rescale_er b n s S p 21 w (fun w => mulTo_e2 b false n 1 s 0 S p w hn0 hn (by decide) (by decide) h (by decide) hS)
theorem rescale_e3 (b : Bool) (n s S p : Int) (w : World) (hn0 : 0 ≤ n) (hn : n < MM) (h : ck b n s = 0) (hS : sc S = true) (hp : p < 1 ∨ 5 < p) :
  Calls Tryz.prog 51 #[dc b n s, .int .i64 S, .int .i64 p] w fun e w' => e = .returned (er 22) ∧ Mo w w' :=
 rescale_er b n s S p 22 w (fun w => mulTo_e3 b false n 1 s 0 S p w hn0 hn (by decide) (by decide) h (by decide) hS hp)
end Go.Proofs.YtogomodbcjpfiaaGreatDoor

namespace Go.Proofs.YtogomodbcjpfiaaGreatDoor
open Go.RowKit
theorem may_sc (s p : Int) (w : World) (h : sc s = false) : Calls Tryz.prog 73 #[.int .i64 s, .int .i64 p] w fun e w' => e = .returned (.int .i64 21) ∧ Mo w w' := by
 by_cases h1 : s < 0
 ·clear h
  go_enter Tryz.func73, Tryz.ntmps73
  go_wp2
  go_ret
  exact ⟨rfl, Mo.refl _⟩
 ·have h2 : 18 < s := by
   unfold sc at h
   rw [decide_eq_true (p := 0 ≤ s) (by omega)] at h
   simp at h
   exact h
  clear h
  go_enter Tryz.func73, Tryz.ntmps73
  go_wp2
  go_ret
  exact ⟨rfl, Mo.refl _⟩
theorem may_pol (s p : Int) (w : World) (h : sc s = true) (hp : p < 1 ∨ 5 < p) : Calls Tryz.prog 73 #[.int .i64 s, .int .i64 p] w fun e w' => e = .returned (.int .i64 22) ∧ Mo w w' := by
 obtain ⟨h1, h2⟩ := sc_iff.1 h
 clear h
 by_cases h3 : p < 1
 ·clear hp
  go_enter Tryz.func73, Tryz.ntmps73
  go_wp2
  go_ret
  exact ⟨rfl, Mo.refl _⟩
 ·have h4 : 5 < p := by omega
  clear hp
  go_enter Tryz.func73, Tryz.ntmps73
  go_wp2
  go_ret
  exact ⟨rfl, Mo.refl _⟩
end Go.Proofs.YtogomodbcjpfiaaGreatDoor

namespace Go.Proofs.YtogomodbcjpfiaaGreatDoor
open Go.RowKit
theorem rneg_at (b : Bool) (n s : Int) (w : World) (hn0 : 0 ≤ n) (hn : n < MM) : Calls Tryz.prog 71 #[.bool (!b), .agg #[.int .u64 0, .int .u64 0, .int .u64 0, .int .u64 0, .int .u64 (l0 n), .int .u64 (l1 n), .int .u64 (l2 n), .int .u64 (l3 n)], .int .i64 s] w fun e w' => e = .returned (.tuple #[dc (!b && !decide (n = 0)) n s, .int .i64 0]) ∧ Mo w w' := by
 have h := rat_yes (!b) n s w hn0 hn
 have e : dw n = .agg #[.int .u64 0, .int .u64 0, .int .u64 0, .int .u64 0, .int .u64 (l0 n), .int .u64 (l1 n), .int .u64 (l2 n), .int .u64 (l3 n)] := by
  unfold dw; rw [Int.ediv_eq_zero_of_lt hn0 hn]; rfl
 rw [e] at h
 exact h
theorem rneg_ok (b : Bool) (n s : Int) (w : World) (hn0 : 0 ≤ n) (hn : n < MM) (h : ck b n s = 0) : Calls Tryz.prog 49 #[dc b n s] w fun e w' => e = .returned (.tuple #[dc (!b && !decide (n = 0)) n s, .int .i64 0]) ∧ Mo w w' := by
 refine w_enter 22 Tryz.func49 Tryz.ntmps49 rfl rfl ?_
 have M : Mo w w := Mo.refl _
 refine w_seq (w_reg ?_)
 refine wl_box 26 (.tmp 0) (dc b (n) (s)) ((dcr b (n) (s))) rfl rfl (fun _ => by kernel_rfl) rfl ?_
 intro k1 w1 hk hz hq Q1
 have N_k1 : w.heap.size ≤ k1 := by have := M.size; omega
 replace M := M.trans hq
 clear hk hz hq
 refine wl_alloc 26 #[.bool false, .int .u64 0, .int .u64 0, .int .u64 0, .int .u64 0, .int .i64 0] rfl (fun _ => by kernel_rfl) rfl ?_
 intro k2 w2 hk hz hq Q2
 have ne_k1_k2 : k1 ≠ k2 := by have := Q1.lt; omega
 have N_k2 : w.heap.size ≤ k2 := by have := M.size; omega
 replace Q1 := Q1.mo hq
 replace M := M.trans hq
 clear hk hz hq
 refine wl_m (.const (.int .i64 (0))) (.int .i64 (0)) ?_
 refine w_nil (xn_then (w_seq (w_seq (w_reg ?_))))
 refine wl_l 26 (.tmp 1) (pt k1 0) (dc b (n) (s)) (run_row Q1 26 0 6 (dcl b (n) (s)) rfl Tryz.underlying26 rfl sz40) ?_
 refine wl_call 42 [(.tmp 5)] _ [dc b (n) (s)] (.int .i64 (0)) rfl rfl (fun _ _ => by kernel_rfl) (rcheck_ok b n s _ hn0 hn h) rfl ?_
 intro w3 hq
 replace Q1 := Q1.mo hq
 replace Q2 := Q2.mo hq
 replace M := M.trans hq
 clear hq
 refine wl_m (.tmp 6) (.int .i64 (0)) ?_
 refine w_nil (xn_then (w_seq (w_reg ?_)))
 refine wl_m (.tmp 4) (.int .i64 (0)) ?_
 refine wl_b .neq 32 (.tmp 7) (.const (.int .i64 (0))) (.int .i64 (0)) (.int .i64 (0)) (.bool false) (by kernel_rfl) ?_
 refine w_nil (xn_then (w_condF rfl (w_skip (xn_then (w_seq (w_reg ?_))))))
 refine wl_f 26 0 (.tmp 1) (pt k1 0) (pt k1 0) ?_
 refine wl_l 4 (.tmp 11) (pt k1 0) (.bool b) (run_one Q1 4 0 rfl Tryz.underlying4 rfl) ?_
 refine wl_un (fun v => Op.unary .not v) (.tmp 12) (.bool b) (.bool (!b)) (fun _ => rfl) rfl (not4_run _ _) rfl ?_
 refine wl_f 26 1 (.tmp 1) (pt k1 0) (pt k1 1) ?_
 refine wl_l 24 (.tmp 14) (pt k1 1) (.agg #[.int .u64 (l0 (n)), .int .u64 (l1 (n)), .int .u64 (l2 (n)), .int .u64 (l3 (n))]) (run_row Q1 24 1 4 _ rfl Tryz.underlying24 rfl sz24) ?_
 refine wl_build 74 [(1, (.tmp 15))] [(1, .agg #[.int .u64 (l0 (n)), .int .u64 (l1 (n)), .int .u64 (l2 (n)), .int .u64 (l3 (n))])] (.agg #[.int .u64 0, .int .u64 0, .int .u64 0, .int .u64 0, .int .u64 (l0 (n)), .int .u64 (l1 (n)), .int .u64 (l2 (n)), .int .u64 (l3 (n))]) rfl rfl (by kernel_rfl) rfl ?_
 refine wl_f 26 2 (.tmp 1) (pt k1 0) (pt k1 5) ?_
 refine wl_l 3 (.tmp 17) (pt k1 5) (.int .i64 (s)) (run_one Q1 3 5 rfl Tryz.underlying3 rfl) ?_
 refine wl_call 71 [(.tmp 13), (.tmp 16), (.tmp 18)] _ [.bool (!b), .agg #[.int .u64 0, .int .u64 0, .int .u64 0, .int .u64 0, .int .u64 (l0 (n)), .int .u64 (l1 (n)), .int .u64 (l2 (n)), .int .u64 (l3 (n))], .int .i64 (s)] (.tuple #[dc (!b && !decide (n = 0)) (n) (s), .int .i64 (0)]) rfl rfl (fun _ _ => by kernel_rfl) (rneg_at b n s _ hn0 hn) rfl ?_
 intro w4 hq
 replace Q1 := Q1.mo hq
 replace Q2 := Q2.mo hq
 replace M := M.trans hq
 clear hq
 refine wl_un (fun v => Instr.extract v 0) (.tmp 19) (.tuple #[dc (!b && !decide (n = 0)) (n) (s), .int .i64 (0)]) (dc (!b && !decide (n = 0)) (n) (s)) (fun _ => rfl) rfl (by kernel_rfl) rfl ?_
 refine wl_un (fun v => Instr.extract v 1) (.tmp 19) (.tuple #[dc (!b && !decide (n = 0)) (n) (s), .int .i64 (0)]) (.int .i64 (0)) (fun _ => rfl) rfl (by kernel_rfl) rfl ?_
 refine wl_st 26 (.tmp 2) (.tmp 20) k2 0 (dcr (!b && !decide (n = 0)) (n) (s)) _ (dcl (!b && !decide (n = 0)) (n) (s)) Q2 rfl rfl rfl rfl rfl sz40 rfl rfl rfl ?_
 intro w5 hS Qn
 replace Q2 := Qn
 clear Qn
 replace Q1 := hS.other _ _ ne_k1_k2 Q1
 replace M := hS.mo _ N_k2 M
 clear hS
 refine wl_m (.tmp 21) (.int .i64 (0)) ?_
 refine w_nil (xn_then (w_ret ?_))
 exact w_ret2 _ _ (dc (!b && !decide (n = 0)) (n) (s)) (.int .i64 (0)) rfl ⟨k2, rfl, (run_row Q2 26 0 6 (dcl (!b && !decide (n = 0)) (n) (s)) rfl Tryz.underlying26 rfl sz40)⟩ rfl ⟨rfl, M⟩
end Go.Proofs.YtogomodbcjpfiaaGreatDoor

namespace Go.Proofs.YtogomodbcjpfiaaGreatDoor
open Go.RowKit
theorem rresc_e2 (b : Bool) (n s S p : Int) (w : World) (hn0 : 0 ≤ n) (hn : n < MM) (h : ck b n s = 0) (hS : sc S = false) :
  Calls Tryz.prog 52 #[dc b n s, .int .i64 S, .int .i64 p] w fun e' w' => e' = .returned (er 21) ∧ Mo w w' := by
 refine w_enter 35 Tryz.func52 Tryz.ntmps52 rfl rfl ?_
 have M : Mo w w := Mo.refl _
 refine w_seq (w_reg ?_)
 refine wl_box 26 (.tmp 0) (dc b (n) (s)) ((dcr b (n) (s))) rfl rfl (fun _ => by kernel_rfl) rfl ?_
 intro k1 w1 hk hz hq Q1
 have N_k1 : w.heap.size ≤ k1 := by have := M.size; omega
 replace M := M.trans hq
 clear hk hz hq
 refine wl_alloc 26 #[.bool false, .int .u64 0, .int .u64 0, .int .u64 0, .int .u64 0, .int .i64 0] rfl (fun _ => by kernel_rfl) rfl ?_
 intro k2 w2 hk hz hq Q2
 have ne_k1_k2 : k1 ≠ k2 := by have := Q1.lt; omega
 have N_k2 : w.heap.size ≤ k2 := by have := M.size; omega
 replace Q1 := Q1.mo hq
 replace M := M.trans hq
 clear hk hz hq
 refine wl_m (.const (.int .i64 (0))) (.int .i64 (0)) ?_
 refine w_nil (xn_then (w_seq (w_seq (w_reg ?_))))
 refine wl_l 26 (.tmp 3) (pt k1 0) (dc b (n) (s)) (run_row Q1 26 0 6 (dcl b (n) (s)) rfl Tryz.underlying26 rfl sz40) ?_
 refine wl_call 42 [(.tmp 10)] _ [dc b (n) (s)] (.int .i64 (0)) rfl rfl (fun _ _ => by kernel_rfl) (rcheck_ok b n s _ hn0 hn h) rfl ?_
 intro w3 hq
 replace Q1 := Q1.mo hq
 replace Q2 := Q2.mo hq
 replace M := M.trans hq
 clear hq
 refine wl_m (.tmp 11) (.int .i64 (0)) ?_
 refine w_nil (xn_then (w_seq (w_reg ?_)))
 refine wl_m (.tmp 8) (.int .i64 (0)) ?_
 refine wl_b .neq 32 (.tmp 12) (.const (.int .i64 (0))) (.int .i64 (0)) (.int .i64 (0)) (.bool false) (by kernel_rfl) ?_
 refine w_nil (xn_then (w_condF rfl (w_skip (xn_then (w_seq (w_seq (w_reg ?_)))))))
 refine wl_m (.tmp 1) (.int .i64 S) ?_
 refine wl_m (.tmp 2) (.int .i64 p) ?_
 refine wl_call 73 [(.tmp 16), (.tmp 17)] _ [.int .i64 S, .int .i64 p] (.int .i64 (21)) rfl rfl (fun _ _ => by kernel_rfl) (may_sc S p _ hS) rfl ?_
 intro w4 hq
 replace Q1 := Q1.mo hq
 replace Q2 := Q2.mo hq
 replace M := M.trans hq
 clear hq
 refine wl_m (.tmp 18) (.int .i64 (21)) ?_
 refine w_nil (xn_then (w_seq (w_reg ?_)))
 refine wl_m (.tmp 9) (.int .i64 (21)) ?_
 refine wl_b .neq 32 (.tmp 19) (.const (.int .i64 (0))) (.int .i64 (21)) (.int .i64 (0)) (.bool true) (by kernel_rfl) ?_
 refine w_nil (xn_then (w_condT rfl (w_seq (w_reg ?_))))
 refine wl_build 26 [] [] (.agg #[.bool false, .int .u64 0, .int .u64 0, .int .u64 0, .int .u64 0, .int .i64 0]) rfl rfl (by kernel_rfl) rfl ?_
 refine wl_m (.tmp 9) (.int .i64 (21)) ?_
 refine wl_st 26 (.tmp 6) (.tmp 21) k2 0 #[.bool false, .int .u64 0, .int .u64 0, .int .u64 0, .int .u64 0, .int .i64 0] _ [.bool false, .int .u64 0, .int .u64 0, .int .u64 0, .int .u64 0, .int .i64 0] Q2 rfl rfl rfl rfl rfl sz40 rfl rfl rfl ?_
 intro w5 hS Qn
 replace Q2 := Qn
 clear Qn
 replace Q1 := hS.other _ _ ne_k1_k2 Q1
 replace M := hS.mo _ N_k2 M
 clear hS
 refine wl_m (.tmp 22) (.int .i64 (21)) ?_
 refine w_nil (xn_then (w_ret (xr_then ?_)))
 exact w_ret2 _ _ (.agg #[.bool false, .int .u64 0, .int .u64 0, .int .u64 0, .int .u64 0, .int .i64 0]) (.int .i64 (21)) rfl ⟨k2, rfl, (run_row Q2 26 0 6 _ rfl Tryz.underlying26 rfl sz40)⟩ rfl ⟨rfl, M⟩
theorem rresc_e3 (b : Bool) (n s S p : Int) (w : World) (hn0 : 0 ≤ n) (hn : n < MM) (h : ck b n s = 0) (hS : sc S = true) (hp : p < 1 ∨ 5 < p) :
  Calls Tryz.prog 52 #[dc b n s, .int .i64 S, .int .i64 p] w fun e' w' => e' = .returned (er 22) ∧ Mo w w' := by
 refine w_enter 35 Tryz.func52 Tryz.ntmps52 rfl rfl ?_
 have M : Mo w w := Mo.refl _
 refine w_seq (w_reg ?_)
 refine wl_box 26 (.tmp 0) (dc b (n) (s)) ((dcr b (n) (s))) rfl rfl (fun _ => by kernel_rfl) rfl ?_
 intro k1 w1 hk hz hq Q1
 have N_k1 : w.heap.size ≤ k1 := by have := M.size; omega
 replace M := M.trans hq
 clear hk hz hq
 refine wl_alloc 26 #[.bool false, .int .u64 0, .int .u64 0, .int .u64 0, .int .u64 0, .int .i64 0] rfl (fun _ => by kernel_rfl) rfl ?_
 intro k2 w2 hk hz hq Q2
 have ne_k1_k2 : k1 ≠ k2 := by have := Q1.lt; omega
 have N_k2 : w.heap.size ≤ k2 := by have := M.size; omega
 replace Q1 := Q1.mo hq
 replace M := M.trans hq
 clear hk hz hq
 refine wl_m (.const (.int .i64 (0))) (.int .i64 (0)) ?_
 refine w_nil (xn_then (w_seq (w_seq (w_reg ?_))))
 refine wl_l 26 (.tmp 3) (pt k1 0) (dc b (n) (s)) (run_row Q1 26 0 6 (dcl b (n) (s)) rfl Tryz.underlying26 rfl sz40) ?_
 refine wl_call 42 [(.tmp 10)] _ [dc b (n) (s)] (.int .i64 (0)) rfl rfl (fun _ _ => by kernel_rfl) (rcheck_ok b n s _ hn0 hn h) rfl ?_
 intro w3 hq
 replace Q1 := Q1.mo hq
 replace Q2 := Q2.mo hq
 replace M := M.trans hq
 clear hq
 refine wl_m (.tmp 11) (.int .i64 (0)) ?_
 refine w_nil (xn_then (w_seq (w_reg ?_)))
 refine wl_m (.tmp 8) (.int .i64 (0)) ?_
 refine wl_b .neq 32 (.tmp 12) (.const (.int .i64 (0))) (.int .i64 (0)) (.int .i64 (0)) (.bool false) (by kernel_rfl) ?_
 refine w_nil (xn_then (w_condF rfl (w_skip (xn_then (w_seq (w_seq (w_reg ?_)))))))
 refine wl_m (.tmp 1) (.int .i64 S) ?_
 refine wl_m (.tmp 2) (.int .i64 p) ?_
 refine wl_call 73 [(.tmp 16), (.tmp 17)] _ [.int .i64 S, .int .i64 p] (.int .i64 (22)) rfl rfl (fun _ _ => by kernel_rfl) (may_pol S p _ hS hp) rfl ?_
 intro w4 hq
 replace Q1 := Q1.mo hq
 replace Q2 := Q2.mo hq
 replace M := M.trans hq
 clear hq
 refine wl_m (.tmp 18) (.int .i64 (22)) ?_
 refine w_nil (xn_then (w_seq (w_reg ?_)))
 refine wl_m (.tmp 9) (.int .i64 (22)) ?_
 refine wl_b .neq 32 (.tmp 19) (.const (.int .i64 (0))) (.int .i64 (22)) (.int .i64 (0)) (.bool true) (by kernel_rfl) ?_
 refine w_nil (xn_then (w_condT rfl (w_seq (w_reg ?_))))
 refine wl_build 26 [] [] (.agg #[.bool false, .int .u64 0, .int .u64 0, .int .u64 0, .int .u64 0, .int .i64 0]) rfl rfl (by kernel_rfl) rfl ?_
 refine wl_m (.tmp 9) (.int .i64 (22)) ?_
 refine wl_st 26 (.tmp 6) (.tmp 21) k2 0 #[.bool false, .int .u64 0, .int .u64 0, .int .u64 0, .int .u64 0, .int .i64 0] _ [.bool false, .int .u64 0, .int .u64 0, .int .u64 0, .int .u64 0, .int .i64 0] Q2 rfl rfl rfl rfl rfl sz40 rfl rfl rfl ?_
 intro w5 hS Qn
 replace Q2 := Qn
 clear Qn
 replace Q1 := hS.other _ _ ne_k1_k2 Q1
 replace M := hS.mo _ N_k2 M
 clear hS
 refine wl_m (.tmp 22) (.int .i64 (22)) ?_
 refine w_nil (xn_then (w_ret (xr_then ?_)))
 exact w_ret2 _ _ (.agg #[.bool false, .int .u64 0, .int .u64 0, .int .u64 0, .int .u64 0, .int .i64 0]) (.int .i64 (22)) rfl ⟨k2, rfl, (run_row Q2 26 0 6 _ rfl Tryz.underlying26 rfl sz40)⟩ rfl ⟨rfl, M⟩
theorem rresc_w (b : Bool) (n s S p : Int) (d0 d1 d2 d3 d4 d5 : Value) (e : Int) (w : World) (hn0 : 0 ≤ n) (hn : n < MM) (h : ck b n s = 0) (hS : sc S = true) (hp1 : 1 ≤ p) (hp5 : p ≤ 5) (hd : [d0, d1, d2, d3, d4, d5].all (·.oneCell') = true) (hrd : ∀ w, Calls Tryz.prog 74 #[.bool b, .agg #[.int .u64 0, .int .u64 0, .int .u64 0, .int .u64 0, .int .u64 (l0 n), .int .u64 (l1 n), .int .u64 (l2 n), .int .u64 (l3 n)], .int .i64 s, .int .i64 S, .int .i64 p] w fun e' w' => e' = .returned (.tuple #[.agg #[d0, d1, d2, d3, d4, d5], .int .i64 e]) ∧ Mo w w') :
  Calls Tryz.prog 52 #[dc b n s, .int .i64 S, .int .i64 p] w fun e' w' => e' = .returned (.tuple #[.agg #[d0, d1, d2, d3, d4, d5], .int .i64 e]) ∧ Mo w w' := by
 refine w_enter 35 Tryz.func52 Tryz.ntmps52 rfl rfl ?_
 have M : Mo w w := Mo.refl _
 refine w_seq (w_reg ?_)
 refine wl_box 26 (.tmp 0) (dc b (n) (s)) ((dcr b (n) (s))) rfl rfl (fun _ => by kernel_rfl) rfl ?_
 intro k1 w1 hk hz hq Q1
 have N_k1 : w.heap.size ≤ k1 := by have := M.size; omega
 replace M := M.trans hq
 clear hk hz hq
 refine wl_alloc 26 #[.bool false, .int .u64 0, .int .u64 0, .int .u64 0, .int .u64 0, .int .i64 0] rfl (fun _ => by kernel_rfl) rfl ?_
 intro k2 w2 hk hz hq Q2
 have ne_k1_k2 : k1 ≠ k2 := by have := Q1.lt; omega
 have N_k2 : w.heap.size ≤ k2 := by have := M.size; omega
 replace Q1 := Q1.mo hq
 replace M := M.trans hq
 clear hk hz hq
 refine wl_m (.const (.int .i64 (0))) (.int .i64 (0)) ?_
 refine w_nil (xn_then (w_seq (w_seq (w_reg ?_))))
 refine wl_l 26 (.tmp 3) (pt k1 0) (dc b (n) (s)) (run_row Q1 26 0 6 (dcl b (n) (s)) rfl Tryz.underlying26 rfl sz40) ?_
 refine wl_call 42 [(.tmp 10)] _ [dc b (n) (s)] (.int .i64 (0)) rfl rfl (fun _ _ => by kernel_rfl) (rcheck_ok b n s _ hn0 hn h) rfl ?_
 intro w3 hq
 replace Q1 := Q1.mo hq
 replace Q2 := Q2.mo hq
 replace M := M.trans hq
 clear hq
 refine wl_m (.tmp 11) (.int .i64 (0)) ?_
 refine w_nil (xn_then (w_seq (w_reg ?_)))
 refine wl_m (.tmp 8) (.int .i64 (0)) ?_
 refine wl_b .neq 32 (.tmp 12) (.const (.int .i64 (0))) (.int .i64 (0)) (.int .i64 (0)) (.bool false) (by kernel_rfl) ?_
 refine w_nil (xn_then (w_condF rfl (w_skip (xn_then (w_seq (w_seq (w_reg ?_)))))))
 refine wl_m (.tmp 1) (.int .i64 S) ?_
 refine wl_m (.tmp 2) (.int .i64 p) ?_
 refine wl_call 73 [(.tmp 16), (.tmp 17)] _ [.int .i64 S, .int .i64 p] (.int .i64 (0)) rfl rfl (fun _ _ => by kernel_rfl) (may_ok S p _ hS hp1 hp5) rfl ?_
 intro w4 hq
 replace Q1 := Q1.mo hq
 replace Q2 := Q2.mo hq
 replace M := M.trans hq
 clear hq
 refine wl_m (.tmp 18) (.int .i64 (0)) ?_
 refine w_nil (xn_then (w_seq (w_reg ?_)))
 refine wl_m (.tmp 9) (.int .i64 (0)) ?_
 refine wl_b .neq 32 (.tmp 19) (.const (.int .i64 (0))) (.int .i64 (0)) (.int .i64 (0)) (.bool false) (by kernel_rfl) ?_
 refine w_nil (xn_then (w_condF rfl (w_skip (xn_then (w_seq (w_reg ?_))))))
 refine wl_f 26 0 (.tmp 3) (pt k1 0) (pt k1 0) ?_
 refine wl_l 4 (.tmp 23) (pt k1 0) (.bool b) (run_one Q1 4 0 rfl Tryz.underlying4 rfl) ?_
 refine wl_f 26 1 (.tmp 3) (pt k1 0) (pt k1 1) ?_
 refine wl_l 24 (.tmp 25) (pt k1 1) (.agg #[.int .u64 (l0 (n)), .int .u64 (l1 (n)), .int .u64 (l2 (n)), .int .u64 (l3 (n))]) (run_row Q1 24 1 4 _ rfl Tryz.underlying24 rfl sz24) ?_
 refine wl_build 74 [(1, (.tmp 26))] [(1, .agg #[.int .u64 (l0 (n)), .int .u64 (l1 (n)), .int .u64 (l2 (n)), .int .u64 (l3 (n))])] (.agg #[.int .u64 0, .int .u64 0, .int .u64 0, .int .u64 0, .int .u64 (l0 (n)), .int .u64 (l1 (n)), .int .u64 (l2 (n)), .int .u64 (l3 (n))]) rfl rfl (by kernel_rfl) rfl ?_
 refine wl_f 26 2 (.tmp 3) (pt k1 0) (pt k1 5) ?_
 refine wl_l 3 (.tmp 28) (pt k1 5) (.int .i64 (s)) (run_one Q1 3 5 rfl Tryz.underlying3 rfl) ?_
 refine wl_m (.tmp 1) (.int .i64 S) ?_
 refine wl_m (.tmp 2) (.int .i64 p) ?_
 refine wl_call 74 [(.tmp 24), (.tmp 27), (.tmp 29), (.tmp 30), (.tmp 31)] _ [.bool b, .agg #[.int .u64 0, .int .u64 0, .int .u64 0, .int .u64 0, .int .u64 (l0 (n)), .int .u64 (l1 (n)), .int .u64 (l2 (n)), .int .u64 (l3 (n))], .int .i64 (s), .int .i64 S, .int .i64 p] (.tuple #[.agg #[d0, d1, d2, d3, d4, d5], .int .i64 e]) rfl rfl (fun _ _ => by kernel_rfl) (hrd _) rfl ?_
 intro w5 hq
 replace Q1 := Q1.mo hq
 replace Q2 := Q2.mo hq
 replace M := M.trans hq
 clear hq
 refine wl_un (fun v => Instr.extract v 0) (.tmp 32) (.tuple #[.agg #[d0, d1, d2, d3, d4, d5], .int .i64 e]) (.agg #[d0, d1, d2, d3, d4, d5]) (fun _ => rfl) rfl (by kernel_rfl) rfl ?_
 refine wl_un (fun v => Instr.extract v 1) (.tmp 32) (.tuple #[.agg #[d0, d1, d2, d3, d4, d5], .int .i64 e]) (.int .i64 e) (fun _ => rfl) rfl (by kernel_rfl) rfl ?_
 refine wl_st 26 (.tmp 6) (.tmp 33) k2 0 #[d0, d1, d2, d3, d4, d5] _ [d0, d1, d2, d3, d4, d5] Q2 rfl rfl rfl rfl rfl sz40 hd rfl rfl ?_
 intro w6 hS Qn
 replace Q2 := Qn
 clear Qn
 replace Q1 := hS.other _ _ ne_k1_k2 Q1
 replace M := hS.mo _ N_k2 M
 clear hS
 refine wl_m (.tmp 34) (.int .i64 e) ?_
 refine w_nil (xn_then (w_ret ?_))
 exact w_ret2 _ _ (.agg #[d0, d1, d2, d3, d4, d5]) (.int .i64 e) rfl ⟨k2, rfl, (run_row Q2 26 0 6 _ rfl Tryz.underlying26 rfl sz40)⟩ rfl ⟨rfl, M⟩
theorem rresc_ok (b : Bool) (n s S p : Int) (w : World) (hn0 : 0 ≤ n) (hn : n < MM) (h : ck b n s = 0) (hb : 0 ≤ s ∧ s ≤ 18) (hS : sc S = true) (hp1 : 1 ≤ p) (hp5 : p ≤ 5) :
  Calls Tryz.prog 52 #[dc b n s, .int .i64 S, .int .i64 p] w fun e' w' => e' = .returned (fx b (rdV b n s S p) S) ∧ Mo w w' := by
 have h2 : n < MM * MM := by unfold MM at *; omega
 obtain ⟨d0, d1, d2, d3, d4, d5, e, he, hd⟩ := fx_form b (rdV b n s S p) S
 have ha := fun w => round_n b n s S p w hn0 h2 hS (by omega) (by omega) hp1 hp5
 have el : dw n = .agg #[.int .u64 0, .int .u64 0, .int .u64 0, .int .u64 0, .int .u64 (l0 n), .int .u64 (l1 n), .int .u64 (l2 n), .int .u64 (l3 n)] := by
  unfold dw; rw [Int.ediv_eq_zero_of_lt hn0 hn]; rfl
 rw [he, el] at ha
 rw [he]
 exact rresc_w b n s S p d0 d1 d2 d3 d4 d5 e w hn0 hn h hS hp1 hp5 hd ha
theorem rescale_x (b : Bool) (n s S p : Int) (w : World) (hn0 : 0 ≤ n) (hn : n < MM) (h : ck b n s = 0) (hb : 0 ≤ s ∧ s ≤ 18) (hS : sc S = true) (hp1 : 1 ≤ p) (hp5 : p ≤ 5) :
  Calls Tryz.prog 51 #[dc b n s, .int .i64 S, .int .i64 p] w fun e' w' => e' = .returned (fx b (rdV b n s S p) S) ∧ Mo w w' := by
 have ha := fun w => mulTo_x b false n 1 s 0 S p w hn0 hn (by decide) (by decide) h (by decide) hb (by decide) hS hp1 hp5
 have e : (b != false) = b := by simp
 rw [e, Int.mul_one, Int.add_zero] at ha
 have h0 : 0 ≤ rdV b n s S p := by
  unfold rdV; split
  ·exact Int.mul_nonneg hn0 (Int.le_of_lt (pw_pos _))
  ·exact ro_nn hn0
 by_cases hr : rdV b n s S p < MM
 ·rw [fx_yes h0 hr] at ha ⊢
  exact rescale_ok b n s S p _ w ha
 ·rw [fx_no hr] at ha ⊢
  exact rescale_er b n s S p 7 w ha
end Go.Proofs.YtogomodbcjpfiaaGreatDoor

namespace Go.Proofs.YtogomodbcjpfiaaGreatDoor.V
open Go.RowKit
section runs
variable {P : Program} {w : World} {k : Nat} {vs : List Value}
theorem run_put1 (h : At w k vs) (ty : TypeId) (o : Nat) (v : Value) (hl : o < vs.length) (hi : (P.info? ty).map (·.size) = some 1) (hv : v.cells = #[v]) (h1 : v.oneCell' = true) :
  (Instr.storeAt ty (pt k o) v).run P w = .ok () (w.setCells k o [v]) := by
 have ht := h.there o 1 (by omega)
 have := run_storeCells_cells (P := P) k o [v] 0 w (fun j hj => by simpa using (ht j (by simpa using hj)).1) (fun j hj => by simpa using (ht j (by simpa using hj)).2)
  (fun u hu => by simp at hu; subst hu; exact h1)
 cases hq : P.info? ty with
 | none => simp [hq] at hi
 | some i =>
  have hs : i.size = 1 := by simpa [hq] using hi
  simp only [Nat.add_zero] at this
  simp [Instr.storeAt, Instr.sureAddr, storeVar, sizeOf, typeInfo, hq, hv, hs, this]
end runs
/-! Frames as lists of what was put where, the last first. -/
/-! The laws of the steps. -/
section steps
variable {P : Program} {o : Oper} {n : Nat} {l : List (Nat × Value)} {w : World} {ops : Array Oper} {rest : List Oper} {Q : Exit → Act → World → Prop} {K : Act → World → Prop}
theorem o_st1 (ty : TypeId) (x y : Operand) (k off : Nat) (v : Value) (vs vs' : List Value) (hA : At w k vs) (ho : o.op = .store ty x y) (hd : o.dst = none) (hx : evl n l x = pt k off) (hy : evl n l y = v)
  (hl : Nat.blt off vs.length = true) (hi : (P.info? ty).map (·.size) = some 1) (hv : v.cells = #[v]) (h1 : v.oneCell' = true) (hvs : vs' = vs.take off ++ [v] ++ vs.drop (off + 1))
  (hk : ∀ w', St k w w' → At w' k vs' → K (fr n l) w') : o.wp P (fr n l) w K Q :=
 have hl' : off < vs.length := by rw [Nat.blt_eq] at hl; exact hl
 o_store ty x y _ _ ho hd hx hy (run_put1 hA ty off v hl' hi hv h1) (hk _ (St.mk' w k off [v]) (hA.set off [v] (by simp; omega) vs' hvs))
end steps
end Go.Proofs.YtogomodbcjpfiaaGreatDoor.V

namespace Go.Proofs.YtogomodbcjpfiaaGreatDoor.V
open Go.RowKit
section
variable {P : Program} {o : Oper} {n : Nat} {l : List (Nat × Value)} {w : World} {ops : Array Oper} {rest : List Oper} {Q : Exit → Act → World → Prop} {K : Act → World → Prop}
theorem wo_val (v : Value) (h : (execOp (evl n l) o).run P w = .ok (.value v) w) (hk : K (fr n (ext l o.dst v)) w) : WO P o n l w K Q := ⟨o_val v h hk⟩
theorem wo_bin (F : Value → Value → Sem Value) (x y : Operand) (p q v : Value) (ho : ∀ ρ, execOp ρ o = (do pure (.value (← F (ρ x) (ρ y))))) (hx : evl n l x = p) (hy : evl n l y = q) (h : (F p q).run P w = .ok v w) (hk : K (fr n (ext l o.dst v)) w) : WO P o n l w K Q := ⟨o_bin F x y p q v ho hx hy h hk⟩
theorem wl_st1 (ty : TypeId) (x y : Operand) (k off : Nat) (v : Value) (vs vs' : List Value) (hA : At w k vs) (ho : o.op = .store ty x y) (hd : o.dst = none) (hx : evl n l x = pt k off) (hy : evl n l y = v)
  (hl : Nat.blt off vs.length = true) (hi : (P.info? ty).map (·.size) = some 1) (hv : v.cells = #[v]) (h1 : v.oneCell' = true) (hvs : vs' = vs.take off ++ [v] ++ vs.drop (off + 1)) (hg : wnt n l ops o = true)
  (hk : ∀ w', St k w w' → At w' k vs' → WL P ops Q rest n l w') : WL P ops Q (o :: rest) n l w :=
 ⟨l_step hg (o_st1 ty x y k off v vs vs' hA ho hd hx hy hl hi hv h1 hvs (fun w' a b => (hk w' a b).out))⟩
theorem la_mv (x : Operand) (p : Value) (ho : ∀ ρ, execOp ρ o = pure (.value (ρ x))) (hx : evl n l x = p) : ∀ w, (execOp (evl n l) o).run P w = .ok (.value p) w := fun w => by rw [ho, hx]; rfl
theorem late_cons {ol : List Oper} {m : Nat} {sp : List Sp} {j : Nat} {r : List Nat} (h : LateO P ol Q n l m sp j) (k : ∀ i, i ∈ r → LateO P ol Q n l m sp i) : ∀ i, i ∈ j :: r → LateO P ol Q n l m sp i := fun i hi => by
 rcases List.mem_cons.1 hi with rfl | hi
 ·exact h
 ·exact k i hi
end
end Go.Proofs.YtogomodbcjpfiaaGreatDoor.V

namespace Go.Proofs.YtogomodbcjpfiaaGreatDoor
open Go.RowKit Go.Lib
theorem gt3_run {a b : Int} {r : Bool} (h : decide (a > b) = r) (x y : Operand) (w : World) : (do eqGuard .gtr 3 x y (.int .i64 a) (.int .i64 b); binOp .gtr 3 (.int .i64 a) (.int .i64 b)).run Tryz.prog w = .ok (.bool r) w := by
 subst h; kernel_rfl
end Go.Proofs.YtogomodbcjpfiaaGreatDoor

namespace Go.Proofs.YtogomodbcjpfiaaGreatDoor
open Go.RowKit Go.ChangeMaps
theorem notb (r : Bool) (w : World) : (Op.unary .not (.bool r)).run Tryz.prog w = .ok (.bool (!r)) w := by kernel_rfl
/-! Maps from names to whole numbers, and from names to flags. -/
variable {w w' : World} {b : Nat} {al : List (ByteArray × Int)}
end Go.Proofs.YtogomodbcjpfiaaGreatDoor

namespace Go.Proofs.YtogomodbcjpfiaaGreatDoor
open Go.RowKit
theorem ckv_k {v : VL} (h : v.ok) (c : ckv v = true) : v.k = 0 ∨ v.k = 1 ∨ v.k = 2 ∨ v.k = 3 ∨ v.k = 4 := by
 have q := congrArg VL.k (ckv_eq h c)
 unfold bareV at q
 split at q; · simp_all
 split at q; · simp_all
 split at q; · simp_all
 split at q; · simp_all
 left; exact q
def askK (k : Int) (v : VL) : Int := if ask v = 0 then (if v.k = k then 0 else 2) else ask v
def negR (b : Bool) (n s : Int) : DR := ⟨!b && !decide (n = 0), n, s, 0⟩
def rndR (b : Bool) (n s S p : Int) : DR := if sc S then (if 1 ≤ p ∧ p ≤ 5 then fxR b (rdV b n s S p) S else erR 22) else erR 21
def negV (x : VL) : VL := if askK 1 x = 0 then numV (negR x.b x.n x.s) else vBad (askK 1 x)
def notV (x : VL) : VL := if askK 2 x = 0 then vFl (!x.f) else vBad (askK 2 x)
def rndV (x : VL) (S p : Int) : VL := if askK 1 x = 0 then numV (rndR x.b x.n x.s S p) else vBad (askK 1 x)
def blkV (x : VL) : VL := if ckv x then (if x.k = 4 then x else vFl (decide (x.k = 0))) else vBad 2
end Go.Proofs.YtogomodbcjpfiaaGreatDoor
namespace Go.Proofs.YtogomodbcjpfiaaGreatDoor
open Go.RowKit
theorem fault1_n (x : VL) (kk : Nat) (w : World) (hA : At w kk x.cells) (hx : x.ok) : Calls Tryz.prog 31 #[.slice (some ⟨kk, 0, none⟩) 1 1] w fun e9 w' => e9 = .returned (.int .i64 (ask x)) ∧ Mo w w' := by
 refine w_enter 26 Tryz.func31 Tryz.ntmps31 rfl rfl ?_
 have M : Mo w w := Mo.refl _
 refine w_seq (w_reg ?_)
 refine wl_m (.const (.int .i64 (0))) (.int .i64 (0)) ?_
 refine w_nil (xn_then (w_seq (w_seq (w_reg ?_))))
 refine wl_m (.tmp 0) (.slice (some ⟨kk, 0, none⟩) 1 1) ?_
 refine wl_val (.int .i64 (1)) (len45 _ _ _ 1 _ (by exact rfl) _ _ _ _ _ _) rfl ?_
 refine wl_m (.const (.int .i64 (0))) (.int .i64 (0)) ?_
 refine w_nil (xn_then (w_block ?_))
 refine w_rounds 3 ?_
 refine w_seq (w_reg ?_)
 refine wl_b .lss 3 (.tmp 7) (.tmp 6) (.int .i64 (0)) (.int .i64 (1)) (.bool true) (lt3 (r := true) rfl _ _ _) ?_
 refine w_nil (xn_then (w_seq (w_condT rfl (w_skip (xn_then (w_seq (w_block (w_seq (w_reg ?_)))))))))
 refine wl_bin (fun x y => Instr.indexAt 45 x y) (.tmp 5) (.tmp 7) (.slice (some ⟨kk, 0, none⟩) 1 1) (.int .i64 (0)) (pt kk 0) (fun _ => rfl) rfl rfl (ix45 (i := 0) rfl (by decide) _) rfl ?_
 refine wl_l 28 (.tmp 9) (pt kk 0) (.agg (x.cells).toArray) (run_row hA 28 0 10 (x.cells) rfl Tryz.underlying28 rfl sz28) ?_
 refine wl_alloc 28 #[.int .i64 0, .bool false, .int .u64 0, .int .u64 0, .int .u64 0, .int .u64 0, .int .i64 0, .bool false, .string ⟨#[]⟩, .int .i64 0] rfl (fun _ => by kernel_rfl) rfl ?_
 intro k1 u1 hk hz hq Q1
 have ne_kk_k1 : kk ≠ k1 := by have := hA.lt; omega
 have N_k1 : w.heap.size ≤ k1 := by have := M.size; omega
 replace hA := hA.mo hq
 replace M := M.trans hq
 clear hk hz hq
 refine wl_st 28 (.tmp 4) (.tmp 10) k1 0 ((x.cells).toArray) _ (x.cells) Q1 rfl rfl rfl rfl rfl sz28 rfl rfl rfl ?_
 intro u2 hS Qn
 replace Q1 := Qn
 clear Qn
 replace hA := hS.other _ _ ne_kk_k1 hA
 replace M := hS.mo _ N_k1 M
 clear hS
 refine w_nil (xn_then (w_block (w_seq (w_reg ?_))))
 refine wl_l 28 (.tmp 4) (pt k1 0) (.agg (x.cells).toArray) (run_row Q1 28 0 10 (x.cells) rfl Tryz.underlying28 rfl sz28) ?_
 cases hf0 : ckv x with
 | true =>
  refine wl_call 13 [(.tmp 12)] _ [.agg (x.cells).toArray] (.int .i64 (0)) rfl rfl (fun _ _ => by kernel_rfl) (check_t hf0 hx _) rfl ?_
  intro u3 hq
  replace hA := hA.mo hq
  replace Q1 := Q1.mo hq
  replace M := M.trans hq
  clear hq
  refine wl_b .neq 32 (.tmp 13) (.const (.int .i64 (0))) (.int .i64 (0)) (.int .i64 (0)) (.bool false) (ne34 (r := true) rfl _ _ _) ?_
  refine wl_m (.tmp 14) (.bool false) ?_
  refine w_nil (xn_then (w_condF rfl (w_seq (w_reg ?_))))
  refine wl_f 28 0 (.tmp 4) (pt k1 0) (pt k1 0) ?_
  refine wl_l 3 (.tmp 16) (pt k1 0) (.int .i64 (x.k)) (run_one Q1 3 0 rfl Tryz.underlying3 rfl) ?_
  cases hf1 : decide (x.k = 4) with
  | true =>
   have hf1p := of_decide_eq_true hf1
   refine wl_b .eql 3 (.tmp 17) (.const (.int .i64 (4))) (.int .i64 (x.k)) (.int .i64 (4)) (.bool true) (eq3 hf1 _ _ _) ?_
   refine wl_m (.tmp 18) (.bool true) ?_
   refine w_nil (xn_then (w_condT rfl (w_seq (w_reg ?_))))
   refine wl_f 28 4 (.tmp 4) (pt k1 0) (pt k1 9) ?_
   refine wl_l 3 (.tmp 19) (pt k1 9) (.int .i64 (x.e)) (run_one Q1 3 9 rfl Tryz.underlying3 rfl) ?_
   refine wl_m (.tmp 20) (.int .i64 (x.e)) ?_
   refine w_nil (xn_then (w_ret (xr_blk (xr_blk (xr_then (xr_then (xr_blk (xr_then ?_))))))))
   exact w_ret1 _ (.int .i64 (x.e)) rfl rfl ⟨by first | (simp [ask, ask, hf0, hf1p]; done) | (rw [ask2_e hx (by assumption) (by assumption)]), M⟩
  | false =>
   have hf1p := of_decide_eq_false hf1
   refine wl_b .eql 3 (.tmp 17) (.const (.int .i64 (4))) (.int .i64 (x.k)) (.int .i64 (4)) (.bool false) (eq3 hf1 _ _ _) ?_
   refine wl_m (.tmp 18) (.bool false) ?_
   refine w_nil (xn_then (w_condF rfl (w_seq (w_reg ?_))))
   refine wl_f 28 0 (.tmp 4) (pt k1 0) (pt k1 0) ?_
   refine wl_l 3 (.tmp 22) (pt k1 0) (.int .i64 (x.k)) (run_one Q1 3 0 rfl Tryz.underlying3 rfl) ?_
   cases hf2 : decide (x.k = 0) with
   | true =>
    have hf2p := of_decide_eq_true hf2
    refine wl_b .eql 3 (.tmp 23) (.const (.int .i64 (0))) (.int .i64 (x.k)) (.int .i64 (0)) (.bool true) (eq3 hf2 _ _ _) ?_
    refine wl_m (.tmp 24) (.bool true) ?_
    refine w_nil (xn_then (w_condT rfl (w_seq (w_reg ?_))))
    refine wl_m (.const (.int .i64 (3))) (.int .i64 (3)) ?_
    refine w_nil (xn_then (w_ret (xr_blk (xr_blk (xr_then (xr_then (xr_blk (xr_then ?_))))))))
    exact w_ret1 _ (.int .i64 (3)) rfl rfl ⟨by first | (simp [ask, ask, hf0, hf2p]; done) | (rw [ask2_e hx (by assumption) (by assumption)]), M⟩
   | false =>
    have hf2p := of_decide_eq_false hf2
    refine wl_b .eql 3 (.tmp 23) (.const (.int .i64 (0))) (.int .i64 (x.k)) (.int .i64 (0)) (.bool false) (eq3 hf2 _ _ _) ?_
    refine wl_m (.tmp 24) (.bool false) ?_
    refine w_nil (xn_then (w_condF rfl (w_skip (xn_blk (xn_blk (xn_then (w_reg ?_)))))))
    refine wl_b .add 3 (.tmp 7) (.const (.int .i64 (1))) (.int .i64 (0)) (.int .i64 (1)) (.int .i64 (1)) (by kernel_rfl) ?_
    refine wl_m (.tmp 25) (.int .i64 (1)) ?_
    refine w_nil ?_
    refine xn_rounds ?_
    refine w_seq (w_reg ?_)
    refine wl_b .lss 3 (.tmp 7) (.tmp 6) (.int .i64 (1)) (.int .i64 (1)) (.bool false) (lt3 (r := false) rfl _ _ _) ?_
    refine w_nil (xn_then (w_seq (w_condF rfl (w_exit (xx_then (xx_then (xx_blk (xn_then (w_seq (w_reg ?_))))))))))
    refine wl_m (.const (.int .i64 (0))) (.int .i64 (0)) ?_
    refine w_nil (xn_then (w_ret ?_))
    exact w_ret1 _ (.int .i64 (0)) rfl rfl ⟨by first | (simp [ask, ask, hf0, hf1p, hf2p]; done) | (rw [ask2_e hx (by assumption) (by assumption)]), M⟩
 | false =>
  refine wl_call 13 [(.tmp 12)] _ [.agg (x.cells).toArray] (.int .i64 (1)) rfl rfl (fun _ _ => by kernel_rfl) (check_f hf0 hx _) rfl ?_
  intro u3 hq
  replace hA := hA.mo hq
  replace Q1 := Q1.mo hq
  replace M := M.trans hq
  clear hq
  refine wl_b .neq 32 (.tmp 13) (.const (.int .i64 (0))) (.int .i64 (1)) (.int .i64 (0)) (.bool true) (ne34 (r := false) rfl _ _ _) ?_
  refine wl_m (.tmp 14) (.bool true) ?_
  refine w_nil (xn_then (w_condT rfl (w_seq (w_reg ?_))))
  refine wl_m (.const (.int .i64 (2))) (.int .i64 (2)) ?_
  refine w_nil (xn_then (w_ret (xr_blk (xr_blk (xr_then (xr_then (xr_blk (xr_then ?_))))))))
  exact w_ret1 _ (.int .i64 (2)) rfl rfl ⟨by first | (simp [ask, ask, hf0]; done) | (rw [ask2_e hx (by assumption) (by assumption)]), M⟩
theorem faultFor_n (k : Int) (x : VL) (w : World) (hx : x.ok) : Calls Tryz.prog 44 #[.int .i64 k, x.v] w fun e9 w' => e9 = .returned (.int .i64 (askK k x)) ∧ Mo w w' := by
 refine w_enter 16 Tryz.func44 Tryz.ntmps44 rfl rfl ?_
 have M : Mo w w := Mo.refl _
 refine w_seq (w_reg ?_)
 refine wl_box 28 (.tmp 1) _ (((x.cells).toArray)) rfl rfl (fun _ => by kernel_rfl) rfl ?_
 intro k1 u1 hk hz hq Q1
 have N_k1 : w.heap.size ≤ k1 := by have := M.size; omega
 replace M := M.trans hq
 clear hk hz hq
 refine wl_m (.const (.int .i64 (0))) (.int .i64 (0)) ?_
 refine w_nil (xn_then (w_seq (w_seq (w_reg ?_))))
 refine wl_l 28 (.tmp 3) (pt k1 0) (.agg (x.cells).toArray) (run_row Q1 28 0 10 (x.cells) rfl Tryz.underlying28 rfl sz28) ?_
 refine wl_bs 45 1 [(0, (.tmp 6))] [(0, .agg (x.cells).toArray)] ((x.cells).toArray) 28 rfl rfl (fun _ => by kernel_rfl) rfl ?_
 intro k2 u2 hk hz hq Q2
 have ne_k1_k2 : k1 ≠ k2 := by have := Q1.lt; omega
 have N_k2 : w.heap.size ≤ k2 := by have := M.size; omega
 replace Q1 := Q1.mo hq
 replace M := M.trans hq
 clear hk hz hq
 refine wl_call 31 [(.tmp 7)] _ [.slice (some ⟨k2, 0, none⟩) 1 1] (.int .i64 (ask x)) rfl rfl (fun _ _ => by kernel_rfl) (fault1_n x k2 _ Q2 hx) rfl ?_
 intro u3 hq
 replace Q1 := Q1.mo hq
 replace Q2 := Q2.mo hq
 replace M := M.trans hq
 clear hq
 refine wl_m (.tmp 8) (.int .i64 (ask x)) ?_
 refine w_nil (xn_then (w_seq (w_reg ?_)))
 refine wl_m (.tmp 5) (.int .i64 (ask x)) ?_
 cases hf0 : decide (ask x = 0) with
 | true =>
  have hf0p := of_decide_eq_true hf0
  refine wl_b .neq 3 (.tmp 9) (.const (.int .i64 (0))) (.int .i64 (ask x)) (.int .i64 (0)) (.bool false) (ne3 hf0 _ _ _) ?_
  refine w_nil (xn_then (w_condF rfl (w_skip (xn_then (w_seq (w_seq (w_reg ?_)))))))
  refine wl_f 28 0 (.tmp 3) (pt k1 0) (pt k1 0) ?_
  refine wl_l 3 (.tmp 12) (pt k1 0) (.int .i64 (x.k)) (run_one Q1 3 0 rfl Tryz.underlying3 rfl) ?_
  refine wl_m (.tmp 0) (.int .i64 (k)) ?_
  cases hf1 : decide (x.k = k) with
  | true =>
   have hf1p := of_decide_eq_true hf1
   refine wl_b .neq 3 (.tmp 13) (.tmp 14) (.int .i64 (x.k)) (.int .i64 (k)) (.bool false) (ne3 hf1 _ _ _) ?_
   refine w_nil (xn_then (w_condF rfl (w_skip (xn_then (w_seq (w_reg ?_))))))
   refine wl_m (.const (.int .i64 (0))) (.int .i64 (0)) ?_
   refine w_nil (xn_then (w_ret ?_))
   exact w_ret1 _ (.int .i64 (0)) rfl rfl ⟨by simp [askK, hf0p, hf1p], M⟩
  | false =>
   have hf1p := of_decide_eq_false hf1
   refine wl_b .neq 3 (.tmp 13) (.tmp 14) (.int .i64 (x.k)) (.int .i64 (k)) (.bool true) (ne3 hf1 _ _ _) ?_
   refine w_nil (xn_then (w_condT rfl (w_seq (w_reg ?_))))
   refine wl_m (.const (.int .i64 (2))) (.int .i64 (2)) ?_
   refine w_nil (xn_then (w_ret (xr_then ?_)))
   exact w_ret1 _ (.int .i64 (2)) rfl rfl ⟨by simp [askK, hf0p, hf1p], M⟩
 | false =>
  have hf0p := of_decide_eq_false hf0
  refine wl_b .neq 3 (.tmp 9) (.const (.int .i64 (0))) (.int .i64 (ask x)) (.int .i64 (0)) (.bool true) (ne3 hf0 _ _ _) ?_
  refine w_nil (xn_then (w_condT rfl (w_seq (w_reg ?_))))
  refine wl_m (.tmp 5) (.int .i64 (ask x)) ?_
  refine wl_m (.tmp 11) (.int .i64 (ask x)) ?_
  refine w_nil (xn_then (w_ret (xr_then ?_)))
  exact w_ret1 _ (.int .i64 (ask x)) rfl rfl ⟨by simp [askK, hf0p], M⟩
end Go.Proofs.YtogomodbcjpfiaaGreatDoor
namespace Go.Proofs.YtogomodbcjpfiaaGreatDoor
open Go.RowKit
theorem pneg_n (b : Bool) (n s : Int) (w : World) (hn0 : 0 ≤ n) (hn : n < MM) (h1 : ck b n s = 0) : Calls Tryz.prog 46 #[dc b n s] w fun e9 w' => e9 = .returned (negR b n s).v ∧ Mo w w' := neg_ok b n s w hn0 hn h1
theorem prnd_n (b : Bool) (n s S p : Int) (w : World) (hn0 : 0 ≤ n) (hn : n < MM) (h1 : ck b n s = 0) : Calls Tryz.prog 51 #[dc b n s, .int .i64 S, .int .i64 p] w fun e9 w' => e9 = .returned (rndR b n s S p).v ∧ Mo w w' := by
 unfold rndR
 cases hS : sc S with
 | false => exact rescale_e2 b n s S p w hn0 hn h1 hS
 | true =>
  by_cases hp : 1 ≤ p ∧ p ≤ 5
  ·rw [if_pos rfl, if_pos hp, ← fx_v]
   exact rescale_x b n s S p w hn0 hn h1 (sc_iff.1 (ck_s h1)) hS hp.1 hp.2
  ·rw [if_pos rfl, if_neg hp]
   exact rescale_e3 b n s S p w hn0 hn h1 hS (by omega)
theorem qneg_n (b : Bool) (n s : Int) (w : World) (hn0 : 0 ≤ n) (hn : n < MM) (h1 : ck b n s = 0) : Calls Tryz.prog 49 #[dc b n s] w fun e9 w' => e9 = .returned (negR b n s).v ∧ Mo w w' := rneg_ok b n s w hn0 hn h1
theorem qrnd_n (b : Bool) (n s S p : Int) (w : World) (hn0 : 0 ≤ n) (hn : n < MM) (h1 : ck b n s = 0) : Calls Tryz.prog 52 #[dc b n s, .int .i64 S, .int .i64 p] w fun e9 w' => e9 = .returned (rndR b n s S p).v ∧ Mo w w' := by
 unfold rndR
 cases hS : sc S with
 | false => exact rresc_e2 b n s S p w hn0 hn h1 hS
 | true =>
  by_cases hp : 1 ≤ p ∧ p ≤ 5
  ·rw [if_pos rfl, if_pos hp, ← fx_v]
   exact rresc_ok b n s S p w hn0 hn h1 (sc_iff.1 (ck_s h1)) hS hp.1 hp.2
  ·rw [if_pos rfl, if_neg hp]
   exact rresc_e3 b n s S p w hn0 hn h1 hS (by omega)
theorem askK_0 {k : Int} {x : VL} (h : askK k x = 0) : ask x = 0 ∧ x.k = k := by
 unfold askK at h
 split at h
 next q =>
  refine ⟨q, ?_⟩
  split at h
  next g => exact g
  next => exact absurd h (by decide)
 next q => exact absurd h q
theorem num_of {x : VL} (hx : x.ok) (h : askK 1 x = 0) : ck x.b x.n x.s = 0 := (ckv_num hx (ask_0 hx (askK_0 h).1).1 (askK_0 h).2).2
theorem neg_n (x : VL) (w : World) (hx : x.ok) : Calls Tryz.prog 17 #[x.v] w fun e9 w' => e9 = .returned (negV x).v ∧ Mo w w' := by
 refine w_enter 16 Tryz.func17 Tryz.ntmps17 rfl rfl ?_
 have M : Mo w w := Mo.refl _
 refine w_seq (w_reg ?_)
 refine wl_box 28 (.tmp 0) _ (((x.cells).toArray)) rfl rfl (fun _ => by kernel_rfl) rfl ?_
 intro k1 u1 hk hz hq Q1
 have N_k1 : w.heap.size ≤ k1 := by have := M.size; omega
 replace M := M.trans hq
 clear hk hz hq
 refine wl_alloc 28 #[.int .i64 0, .bool false, .int .u64 0, .int .u64 0, .int .u64 0, .int .u64 0, .int .i64 0, .bool false, .string ⟨#[]⟩, .int .i64 0] rfl (fun _ => by kernel_rfl) rfl ?_
 intro k2 u2 hk hz hq Q2
 have ne_k1_k2 : k1 ≠ k2 := by have := Q1.lt; omega
 have N_k2 : w.heap.size ≤ k2 := by have := M.size; omega
 replace Q1 := Q1.mo hq
 replace M := M.trans hq
 clear hk hz hq
 refine w_nil (xn_then (w_seq (w_seq (w_reg ?_))))
 refine wl_l 28 (.tmp 1) (pt k1 0) (.agg (x.cells).toArray) (run_row Q1 28 0 10 (x.cells) rfl Tryz.underlying28 rfl sz28) ?_
 refine wl_call 44 [(.const (.int .i64 (1))), (.tmp 4)] _ [.int .i64 (1), .agg (x.cells).toArray] (.int .i64 (askK (1) x)) rfl rfl (fun _ _ => by kernel_rfl) (faultFor_n (1) x _ hx) rfl ?_
 intro u3 hq
 replace Q1 := Q1.mo hq
 replace Q2 := Q2.mo hq
 replace M := M.trans hq
 clear hq
 refine wl_m (.tmp 5) (.int .i64 (askK (1) x)) ?_
 refine w_nil (xn_then (w_seq (w_reg ?_)))
 refine wl_m (.tmp 3) (.int .i64 (askK (1) x)) ?_
 cases hf0 : decide (askK (1) x = 0) with
 | true =>
  have hf0p := of_decide_eq_true hf0
  refine wl_b .neq 3 (.tmp 6) (.const (.int .i64 (0))) (.int .i64 (askK (1) x)) (.int .i64 (0)) (.bool false) (ne3 hf0 _ _ _) ?_
  refine w_nil (xn_then (w_condF rfl (w_skip (xn_then (w_seq (w_reg ?_))))))
  refine wl_f 28 1 (.tmp 1) (pt k1 0) (pt k1 1) ?_
  refine wl_l 26 (.tmp 10) (pt k1 1) (.agg #[.bool x.b, .int .u64 (l0 x.n), .int .u64 (l1 x.n), .int .u64 (l2 x.n), .int .u64 (l3 x.n), .int .i64 x.s]) (run_row Q1 26 1 6 _ rfl Tryz.underlying26 rfl sz26) ?_
  refine wl_call 46 [(.tmp 11)] _ [.agg #[.bool x.b, .int .u64 (l0 x.n), .int .u64 (l1 x.n), .int .u64 (l2 x.n), .int .u64 (l3 x.n), .int .i64 x.s]] (.tuple #[.agg #[.bool (negR x.b x.n x.s).b, .int .u64 (l0 (negR x.b x.n x.s).n), .int .u64 (l1 (negR x.b x.n x.s).n), .int .u64 (l2 (negR x.b x.n x.s).n), .int .u64 (l3 (negR x.b x.n x.s).n), .int .i64 (negR x.b x.n x.s).s], .int .i64 ((negR x.b x.n x.s).e)]) rfl rfl (fun _ _ => by kernel_rfl) (pneg_n x.b x.n x.s _ hx.1 hx.2 (num_of hx (by assumption))) rfl ?_
  intro u4 hq
  replace Q1 := Q1.mo hq
  replace Q2 := Q2.mo hq
  replace M := M.trans hq
  clear hq
  refine wl_un (fun v => Instr.extract v 0) (.tmp 12) (.tuple #[.agg #[.bool (negR x.b x.n x.s).b, .int .u64 (l0 (negR x.b x.n x.s).n), .int .u64 (l1 (negR x.b x.n x.s).n), .int .u64 (l2 (negR x.b x.n x.s).n), .int .u64 (l3 (negR x.b x.n x.s).n), .int .i64 (negR x.b x.n x.s).s], .int .i64 ((negR x.b x.n x.s).e)]) (.agg #[.bool (negR x.b x.n x.s).b, .int .u64 (l0 (negR x.b x.n x.s).n), .int .u64 (l1 (negR x.b x.n x.s).n), .int .u64 (l2 (negR x.b x.n x.s).n), .int .u64 (l3 (negR x.b x.n x.s).n), .int .i64 (negR x.b x.n x.s).s]) (fun _ => rfl) rfl (by kernel_rfl) rfl ?_
  refine wl_un (fun v => Instr.extract v 1) (.tmp 12) (.tuple #[.agg #[.bool (negR x.b x.n x.s).b, .int .u64 (l0 (negR x.b x.n x.s).n), .int .u64 (l1 (negR x.b x.n x.s).n), .int .u64 (l2 (negR x.b x.n x.s).n), .int .u64 (l3 (negR x.b x.n x.s).n), .int .i64 (negR x.b x.n x.s).s], .int .i64 ((negR x.b x.n x.s).e)]) (.int .i64 ((negR x.b x.n x.s).e)) (fun _ => rfl) rfl (by kernel_rfl) rfl ?_
  refine wl_call 45 [(.tmp 13), (.tmp 14)] _ [.agg #[.bool (negR x.b x.n x.s).b, .int .u64 (l0 (negR x.b x.n x.s).n), .int .u64 (l1 (negR x.b x.n x.s).n), .int .u64 (l2 (negR x.b x.n x.s).n), .int .u64 (l3 (negR x.b x.n x.s).n), .int .i64 (negR x.b x.n x.s).s], .int .i64 ((negR x.b x.n x.s).e)] (.agg ((numV (negR x.b x.n x.s)).cells).toArray) rfl rfl (fun _ _ => by kernel_rfl) (number_n (negR x.b x.n x.s) _) rfl ?_
  intro u5 hq
  replace Q1 := Q1.mo hq
  replace Q2 := Q2.mo hq
  replace M := M.trans hq
  clear hq
  refine wl_st 28 (.tmp 2) (.tmp 15) k2 0 (((numV (negR x.b x.n x.s)).cells).toArray) _ ((numV (negR x.b x.n x.s)).cells) Q2 rfl rfl rfl rfl rfl sz28 rfl rfl rfl ?_
  intro u6 hS Qn
  replace Q2 := Qn
  clear Qn
  replace Q1 := hS.other _ _ ne_k1_k2 Q1
  replace M := hS.mo _ N_k2 M
  clear hS
  refine w_nil (xn_then (w_ret ?_))
  exact w_ret1 _ (.agg ((numV (negR x.b x.n x.s)).cells).toArray) rfl ⟨k2, rfl, (run_row Q2 28 0 10 ((numV (negR x.b x.n x.s)).cells) rfl Tryz.underlying28 rfl sz28)⟩ ⟨vrt (x := (numV (negR x.b x.n x.s))) rfl (by simp [negV, hf0p]), M⟩
 | false =>
  have hf0p := of_decide_eq_false hf0
  refine wl_b .neq 3 (.tmp 6) (.const (.int .i64 (0))) (.int .i64 (askK (1) x)) (.int .i64 (0)) (.bool true) (ne3 hf0 _ _ _) ?_
  refine w_nil (xn_then (w_condT rfl (w_seq (w_reg ?_))))
  refine wl_m (.tmp 3) (.int .i64 (askK (1) x)) ?_
  refine wl_call 15 [(.tmp 8)] _ [.int .i64 (askK (1) x)] (.agg ((vBad (askK (1) x)).cells).toArray) rfl rfl (fun _ _ => by kernel_rfl) (bad_n (askK (1) x) _) rfl ?_
  intro u4 hq
  replace Q1 := Q1.mo hq
  replace Q2 := Q2.mo hq
  replace M := M.trans hq
  clear hq
  refine wl_st 28 (.tmp 2) (.tmp 9) k2 0 (((vBad (askK (1) x)).cells).toArray) _ ((vBad (askK (1) x)).cells) Q2 rfl rfl rfl rfl rfl sz28 rfl rfl rfl ?_
  intro u5 hS Qn
  replace Q2 := Qn
  clear Qn
  replace Q1 := hS.other _ _ ne_k1_k2 Q1
  replace M := hS.mo _ N_k2 M
  clear hS
  refine w_nil (xn_then (w_ret (xr_then ?_)))
  exact w_ret1 _ (.agg ((vBad (askK (1) x)).cells).toArray) rfl ⟨k2, rfl, (run_row Q2 28 0 10 ((vBad (askK (1) x)).cells) rfl Tryz.underlying28 rfl sz28)⟩ ⟨vrt (x := (vBad (askK (1) x))) rfl (by simp [negV, hf0p]), M⟩
theorem not_n (x : VL) (w : World) (hx : x.ok) : Calls Tryz.prog 19 #[x.v] w fun e9 w' => e9 = .returned (notV x).v ∧ Mo w w' := by
 refine w_enter 14 Tryz.func19 Tryz.ntmps19 rfl rfl ?_
 have M : Mo w w := Mo.refl _
 refine w_seq (w_reg ?_)
 refine wl_box 28 (.tmp 0) _ (((x.cells).toArray)) rfl rfl (fun _ => by kernel_rfl) rfl ?_
 intro k1 u1 hk hz hq Q1
 have N_k1 : w.heap.size ≤ k1 := by have := M.size; omega
 replace M := M.trans hq
 clear hk hz hq
 refine wl_alloc 28 #[.int .i64 0, .bool false, .int .u64 0, .int .u64 0, .int .u64 0, .int .u64 0, .int .i64 0, .bool false, .string ⟨#[]⟩, .int .i64 0] rfl (fun _ => by kernel_rfl) rfl ?_
 intro k2 u2 hk hz hq Q2
 have ne_k1_k2 : k1 ≠ k2 := by have := Q1.lt; omega
 have N_k2 : w.heap.size ≤ k2 := by have := M.size; omega
 replace Q1 := Q1.mo hq
 replace M := M.trans hq
 clear hk hz hq
 refine w_nil (xn_then (w_seq (w_seq (w_reg ?_))))
 refine wl_l 28 (.tmp 1) (pt k1 0) (.agg (x.cells).toArray) (run_row Q1 28 0 10 (x.cells) rfl Tryz.underlying28 rfl sz28) ?_
 refine wl_call 44 [(.const (.int .i64 (2))), (.tmp 4)] _ [.int .i64 (2), .agg (x.cells).toArray] (.int .i64 (askK (2) x)) rfl rfl (fun _ _ => by kernel_rfl) (faultFor_n (2) x _ hx) rfl ?_
 intro u3 hq
 replace Q1 := Q1.mo hq
 replace Q2 := Q2.mo hq
 replace M := M.trans hq
 clear hq
 refine wl_m (.tmp 5) (.int .i64 (askK (2) x)) ?_
 refine w_nil (xn_then (w_seq (w_reg ?_)))
 refine wl_m (.tmp 3) (.int .i64 (askK (2) x)) ?_
 cases hf0 : decide (askK (2) x = 0) with
 | true =>
  have hf0p := of_decide_eq_true hf0
  refine wl_b .neq 3 (.tmp 6) (.const (.int .i64 (0))) (.int .i64 (askK (2) x)) (.int .i64 (0)) (.bool false) (ne3 hf0 _ _ _) ?_
  refine w_nil (xn_then (w_condF rfl (w_skip (xn_then (w_seq (w_reg ?_))))))
  refine wl_f 28 2 (.tmp 1) (pt k1 0) (pt k1 7) ?_
  refine wl_l 4 (.tmp 10) (pt k1 7) (.bool x.f) (run_one Q1 4 7 rfl Tryz.underlying4 rfl) ?_
  refine wl_un (fun v => Op.unary .not v) (.tmp 11) (.bool x.f) (.bool (!x.f)) (fun _ => rfl) rfl (notb _ _) rfl ?_
  refine wl_call 33 [(.tmp 12)] _ [.bool (!x.f)] (.agg ((vFl (!x.f)).cells).toArray) rfl rfl (fun _ _ => by kernel_rfl) (flag_n (!x.f) _) rfl ?_
  intro u4 hq
  replace Q1 := Q1.mo hq
  replace Q2 := Q2.mo hq
  replace M := M.trans hq
  clear hq
  refine wl_st 28 (.tmp 2) (.tmp 13) k2 0 (((vFl (!x.f)).cells).toArray) _ ((vFl (!x.f)).cells) Q2 rfl rfl rfl rfl rfl sz28 rfl rfl rfl ?_
  intro u5 hS Qn
  replace Q2 := Qn
  clear Qn
  replace Q1 := hS.other _ _ ne_k1_k2 Q1
  replace M := hS.mo _ N_k2 M
  clear hS
  refine w_nil (xn_then (w_ret ?_))
  exact w_ret1 _ (.agg ((vFl (!x.f)).cells).toArray) rfl ⟨k2, rfl, (run_row Q2 28 0 10 ((vFl (!x.f)).cells) rfl Tryz.underlying28 rfl sz28)⟩ ⟨vrt (x := (vFl (!x.f))) rfl (by simp [notV, hf0p]), M⟩
 | false =>
  have hf0p := of_decide_eq_false hf0
  refine wl_b .neq 3 (.tmp 6) (.const (.int .i64 (0))) (.int .i64 (askK (2) x)) (.int .i64 (0)) (.bool true) (ne3 hf0 _ _ _) ?_
  refine w_nil (xn_then (w_condT rfl (w_seq (w_reg ?_))))
  refine wl_m (.tmp 3) (.int .i64 (askK (2) x)) ?_
  refine wl_call 15 [(.tmp 8)] _ [.int .i64 (askK (2) x)] (.agg ((vBad (askK (2) x)).cells).toArray) rfl rfl (fun _ _ => by kernel_rfl) (bad_n (askK (2) x) _) rfl ?_
  intro u4 hq
  replace Q1 := Q1.mo hq
  replace Q2 := Q2.mo hq
  replace M := M.trans hq
  clear hq
  refine wl_st 28 (.tmp 2) (.tmp 9) k2 0 (((vBad (askK (2) x)).cells).toArray) _ ((vBad (askK (2) x)).cells) Q2 rfl rfl rfl rfl rfl sz28 rfl rfl rfl ?_
  intro u5 hS Qn
  replace Q2 := Qn
  clear Qn
  replace Q1 := hS.other _ _ ne_k1_k2 Q1
  replace M := hS.mo _ N_k2 M
  clear hS
  refine w_nil (xn_then (w_ret (xr_then ?_)))
  exact w_ret1 _ (.agg ((vBad (askK (2) x)).cells).toArray) rfl ⟨k2, rfl, (run_row Q2 28 0 10 ((vBad (askK (2) x)).cells) rfl Tryz.underlying28 rfl sz28)⟩ ⟨vrt (x := (vBad (askK (2) x))) rfl (by simp [notV, hf0p]), M⟩
theorem rnd_n (x : VL) (S p : Int) (w : World) (hx : x.ok) : Calls Tryz.prog 23 #[x.v, .int .i64 S, .int .i64 p] w fun e9 w' => e9 = .returned (rndV x S p).v ∧ Mo w w' := by
 refine w_enter 22 Tryz.func23 Tryz.ntmps23 rfl rfl ?_
 have M : Mo w w := Mo.refl _
 refine w_seq (w_reg ?_)
 refine wl_box 28 (.tmp 0) _ (((x.cells).toArray)) rfl rfl (fun _ => by kernel_rfl) rfl ?_
 intro k1 u1 hk hz hq Q1
 have N_k1 : w.heap.size ≤ k1 := by have := M.size; omega
 replace M := M.trans hq
 clear hk hz hq
 refine wl_alloc 28 #[.int .i64 0, .bool false, .int .u64 0, .int .u64 0, .int .u64 0, .int .u64 0, .int .i64 0, .bool false, .string ⟨#[]⟩, .int .i64 0] rfl (fun _ => by kernel_rfl) rfl ?_
 intro k2 u2 hk hz hq Q2
 have ne_k1_k2 : k1 ≠ k2 := by have := Q1.lt; omega
 have N_k2 : w.heap.size ≤ k2 := by have := M.size; omega
 replace Q1 := Q1.mo hq
 replace M := M.trans hq
 clear hk hz hq
 refine w_nil (xn_then (w_seq (w_seq (w_reg ?_))))
 refine wl_l 28 (.tmp 3) (pt k1 0) (.agg (x.cells).toArray) (run_row Q1 28 0 10 (x.cells) rfl Tryz.underlying28 rfl sz28) ?_
 refine wl_call 44 [(.const (.int .i64 (1))), (.tmp 8)] _ [.int .i64 (1), .agg (x.cells).toArray] (.int .i64 (askK (1) x)) rfl rfl (fun _ _ => by kernel_rfl) (faultFor_n (1) x _ hx) rfl ?_
 intro u3 hq
 replace Q1 := Q1.mo hq
 replace Q2 := Q2.mo hq
 replace M := M.trans hq
 clear hq
 refine wl_m (.tmp 9) (.int .i64 (askK (1) x)) ?_
 refine w_nil (xn_then (w_seq (w_reg ?_)))
 refine wl_m (.tmp 7) (.int .i64 (askK (1) x)) ?_
 cases hf0 : decide (askK (1) x = 0) with
 | true =>
  have hf0p := of_decide_eq_true hf0
  refine wl_b .neq 3 (.tmp 10) (.const (.int .i64 (0))) (.int .i64 (askK (1) x)) (.int .i64 (0)) (.bool false) (ne3 hf0 _ _ _) ?_
  refine w_nil (xn_then (w_condF rfl (w_skip (xn_then (w_seq (w_reg ?_))))))
  refine wl_f 28 1 (.tmp 3) (pt k1 0) (pt k1 1) ?_
  refine wl_l 26 (.tmp 14) (pt k1 1) (.agg #[.bool x.b, .int .u64 (l0 x.n), .int .u64 (l1 x.n), .int .u64 (l2 x.n), .int .u64 (l3 x.n), .int .i64 x.s]) (run_row Q1 26 1 6 _ rfl Tryz.underlying26 rfl sz26) ?_
  refine wl_m (.tmp 1) (.int .i64 (S)) ?_
  refine wl_m (.tmp 2) (.int .i64 (p)) ?_
  refine wl_call 51 [(.tmp 15), (.tmp 16), (.tmp 17)] _ [.agg #[.bool x.b, .int .u64 (l0 x.n), .int .u64 (l1 x.n), .int .u64 (l2 x.n), .int .u64 (l3 x.n), .int .i64 x.s], .int .i64 (S), .int .i64 (p)] (.tuple #[.agg #[.bool (rndR x.b x.n x.s S p).b, .int .u64 (l0 (rndR x.b x.n x.s S p).n), .int .u64 (l1 (rndR x.b x.n x.s S p).n), .int .u64 (l2 (rndR x.b x.n x.s S p).n), .int .u64 (l3 (rndR x.b x.n x.s S p).n), .int .i64 (rndR x.b x.n x.s S p).s], .int .i64 ((rndR x.b x.n x.s S p).e)]) rfl rfl (fun _ _ => by kernel_rfl) (prnd_n x.b x.n x.s S p _ hx.1 hx.2 (num_of hx (by assumption))) rfl ?_
  intro u4 hq
  replace Q1 := Q1.mo hq
  replace Q2 := Q2.mo hq
  replace M := M.trans hq
  clear hq
  refine wl_un (fun v => Instr.extract v 0) (.tmp 18) (.tuple #[.agg #[.bool (rndR x.b x.n x.s S p).b, .int .u64 (l0 (rndR x.b x.n x.s S p).n), .int .u64 (l1 (rndR x.b x.n x.s S p).n), .int .u64 (l2 (rndR x.b x.n x.s S p).n), .int .u64 (l3 (rndR x.b x.n x.s S p).n), .int .i64 (rndR x.b x.n x.s S p).s], .int .i64 ((rndR x.b x.n x.s S p).e)]) (.agg #[.bool (rndR x.b x.n x.s S p).b, .int .u64 (l0 (rndR x.b x.n x.s S p).n), .int .u64 (l1 (rndR x.b x.n x.s S p).n), .int .u64 (l2 (rndR x.b x.n x.s S p).n), .int .u64 (l3 (rndR x.b x.n x.s S p).n), .int .i64 (rndR x.b x.n x.s S p).s]) (fun _ => rfl) rfl (by kernel_rfl) rfl ?_
  refine wl_un (fun v => Instr.extract v 1) (.tmp 18) (.tuple #[.agg #[.bool (rndR x.b x.n x.s S p).b, .int .u64 (l0 (rndR x.b x.n x.s S p).n), .int .u64 (l1 (rndR x.b x.n x.s S p).n), .int .u64 (l2 (rndR x.b x.n x.s S p).n), .int .u64 (l3 (rndR x.b x.n x.s S p).n), .int .i64 (rndR x.b x.n x.s S p).s], .int .i64 ((rndR x.b x.n x.s S p).e)]) (.int .i64 ((rndR x.b x.n x.s S p).e)) (fun _ => rfl) rfl (by kernel_rfl) rfl ?_
  refine wl_call 45 [(.tmp 19), (.tmp 20)] _ [.agg #[.bool (rndR x.b x.n x.s S p).b, .int .u64 (l0 (rndR x.b x.n x.s S p).n), .int .u64 (l1 (rndR x.b x.n x.s S p).n), .int .u64 (l2 (rndR x.b x.n x.s S p).n), .int .u64 (l3 (rndR x.b x.n x.s S p).n), .int .i64 (rndR x.b x.n x.s S p).s], .int .i64 ((rndR x.b x.n x.s S p).e)] (.agg ((numV (rndR x.b x.n x.s S p)).cells).toArray) rfl rfl (fun _ _ => by kernel_rfl) (number_n (rndR x.b x.n x.s S p) _) rfl ?_
  intro u5 hq
  replace Q1 := Q1.mo hq
  replace Q2 := Q2.mo hq
  replace M := M.trans hq
  clear hq
  refine wl_st 28 (.tmp 6) (.tmp 21) k2 0 (((numV (rndR x.b x.n x.s S p)).cells).toArray) _ ((numV (rndR x.b x.n x.s S p)).cells) Q2 rfl rfl rfl rfl rfl sz28 rfl rfl rfl ?_
  intro u6 hS Qn
  replace Q2 := Qn
  clear Qn
  replace Q1 := hS.other _ _ ne_k1_k2 Q1
  replace M := hS.mo _ N_k2 M
  clear hS
  refine w_nil (xn_then (w_ret ?_))
  exact w_ret1 _ (.agg ((numV (rndR x.b x.n x.s S p)).cells).toArray) rfl ⟨k2, rfl, (run_row Q2 28 0 10 ((numV (rndR x.b x.n x.s S p)).cells) rfl Tryz.underlying28 rfl sz28)⟩ ⟨vrt (x := (numV (rndR x.b x.n x.s S p))) rfl (by simp [rndV, hf0p]), M⟩
 | false =>
  have hf0p := of_decide_eq_false hf0
  refine wl_b .neq 3 (.tmp 10) (.const (.int .i64 (0))) (.int .i64 (askK (1) x)) (.int .i64 (0)) (.bool true) (ne3 hf0 _ _ _) ?_
  refine w_nil (xn_then (w_condT rfl (w_seq (w_reg ?_))))
  refine wl_m (.tmp 7) (.int .i64 (askK (1) x)) ?_
  refine wl_call 15 [(.tmp 12)] _ [.int .i64 (askK (1) x)] (.agg ((vBad (askK (1) x)).cells).toArray) rfl rfl (fun _ _ => by kernel_rfl) (bad_n (askK (1) x) _) rfl ?_
  intro u4 hq
  replace Q1 := Q1.mo hq
  replace Q2 := Q2.mo hq
  replace M := M.trans hq
  clear hq
  refine wl_st 28 (.tmp 6) (.tmp 13) k2 0 (((vBad (askK (1) x)).cells).toArray) _ ((vBad (askK (1) x)).cells) Q2 rfl rfl rfl rfl rfl sz28 rfl rfl rfl ?_
  intro u5 hS Qn
  replace Q2 := Qn
  clear Qn
  replace Q1 := hS.other _ _ ne_k1_k2 Q1
  replace M := hS.mo _ N_k2 M
  clear hS
  refine w_nil (xn_then (w_ret (xr_then ?_)))
  exact w_ret1 _ (.agg ((vBad (askK (1) x)).cells).toArray) rfl ⟨k2, rfl, (run_row Q2 28 0 10 ((vBad (askK (1) x)).cells) rfl Tryz.underlying28 rfl sz28)⟩ ⟨vrt (x := (vBad (askK (1) x))) rfl (by simp [rndV, hf0p]), M⟩
theorem blk_n (x : VL) (w : World) (hx : x.ok) : Calls Tryz.prog 21 #[x.v] w fun e9 w' => e9 = .returned (blkV x).v ∧ Mo w w' := by
 refine w_enter 17 Tryz.func21 Tryz.ntmps21 rfl rfl ?_
 have M : Mo w w := Mo.refl _
 refine w_seq (w_reg ?_)
 refine wl_box 28 (.tmp 0) _ (((x.cells).toArray)) rfl rfl (fun _ => by kernel_rfl) rfl ?_
 intro k1 u1 hk hz hq Q1
 have N_k1 : w.heap.size ≤ k1 := by have := M.size; omega
 replace M := M.trans hq
 clear hk hz hq
 refine wl_alloc 28 #[.int .i64 0, .bool false, .int .u64 0, .int .u64 0, .int .u64 0, .int .u64 0, .int .i64 0, .bool false, .string ⟨#[]⟩, .int .i64 0] rfl (fun _ => by kernel_rfl) rfl ?_
 intro k2 u2 hk hz hq Q2
 have ne_k1_k2 : k1 ≠ k2 := by have := Q1.lt; omega
 have N_k2 : w.heap.size ≤ k2 := by have := M.size; omega
 replace Q1 := Q1.mo hq
 replace M := M.trans hq
 clear hk hz hq
 refine w_nil (xn_then (w_seq (w_block (w_seq (w_reg ?_)))))
 refine wl_l 28 (.tmp 1) (pt k1 0) (.agg (x.cells).toArray) (run_row Q1 28 0 10 (x.cells) rfl Tryz.underlying28 rfl sz28) ?_
 cases hf0 : ckv x with
 | true =>
  refine wl_call 13 [(.tmp 4)] _ [.agg (x.cells).toArray] (.int .i64 (0)) rfl rfl (fun _ _ => by kernel_rfl) (check_t hf0 hx _) rfl ?_
  intro u3 hq
  replace Q1 := Q1.mo hq
  replace Q2 := Q2.mo hq
  replace M := M.trans hq
  clear hq
  refine wl_b .neq 32 (.tmp 5) (.const (.int .i64 (0))) (.int .i64 (0)) (.int .i64 (0)) (.bool false) (ne34 (r := true) rfl _ _ _) ?_
  refine wl_m (.tmp 6) (.bool false) ?_
  refine w_nil (xn_then (w_condF rfl (w_seq (w_reg ?_))))
  refine wl_f 28 0 (.tmp 1) (pt k1 0) (pt k1 0) ?_
  refine wl_l 3 (.tmp 9) (pt k1 0) (.int .i64 (x.k)) (run_one Q1 3 0 rfl Tryz.underlying3 rfl) ?_
  cases hf1 : decide (x.k = 4) with
  | true =>
   have hf1p := of_decide_eq_true hf1
   refine wl_b .eql 3 (.tmp 10) (.const (.int .i64 (4))) (.int .i64 (x.k)) (.int .i64 (4)) (.bool true) (eq3 hf1 _ _ _) ?_
   refine wl_m (.tmp 11) (.bool true) ?_
   refine w_nil (xn_then (w_condT rfl (w_seq (w_reg ?_))))
   refine wl_l 28 (.tmp 1) (pt k1 0) (.agg (x.cells).toArray) (run_row Q1 28 0 10 (x.cells) rfl Tryz.underlying28 rfl sz28) ?_
   refine wl_st 28 (.tmp 2) (.tmp 12) k2 0 ((x.cells).toArray) _ (x.cells) Q2 rfl rfl rfl rfl rfl sz28 rfl rfl rfl ?_
   intro u4 hS Qn
   replace Q2 := Qn
   clear Qn
   replace Q1 := hS.other _ _ ne_k1_k2 Q1
   replace M := hS.mo _ N_k2 M
   clear hS
   refine w_nil (xn_then (w_ret (xr_blk (xr_then ?_))))
   exact w_ret1 _ (.agg (x.cells).toArray) rfl ⟨k2, rfl, (run_row Q2 28 0 10 (x.cells) rfl Tryz.underlying28 rfl sz28)⟩ ⟨vrt (x := x) rfl (by simp [blkV, hf0, hf1p]), M⟩
  | false =>
   have hf1p := of_decide_eq_false hf1
   refine wl_b .eql 3 (.tmp 10) (.const (.int .i64 (4))) (.int .i64 (x.k)) (.int .i64 (4)) (.bool false) (eq3 hf1 _ _ _) ?_
   refine wl_m (.tmp 11) (.bool false) ?_
   refine w_nil (xn_then (w_condF rfl (w_skip (xn_blk (xn_then (w_seq (w_reg ?_)))))))
   refine wl_f 28 0 (.tmp 1) (pt k1 0) (pt k1 0) ?_
   refine wl_l 3 (.tmp 13) (pt k1 0) (.int .i64 (x.k)) (run_one Q1 3 0 rfl Tryz.underlying3 rfl) ?_
   cases hf2 : decide (x.k = 0) with
   | true =>
    have hf2p := of_decide_eq_true hf2
    refine wl_b .eql 3 (.tmp 14) (.const (.int .i64 (0))) (.int .i64 (x.k)) (.int .i64 (0)) (.bool true) (eq3 hf2 _ _ _) ?_
    refine wl_call 33 [(.tmp 15)] _ [.bool true] (.agg ((vFl true).cells).toArray) rfl rfl (fun _ _ => by kernel_rfl) (flag_n true _) rfl ?_
    intro u4 hq
    replace Q1 := Q1.mo hq
    replace Q2 := Q2.mo hq
    replace M := M.trans hq
    clear hq
    refine wl_st 28 (.tmp 2) (.tmp 16) k2 0 (((vFl true).cells).toArray) _ ((vFl true).cells) Q2 rfl rfl rfl rfl rfl sz28 rfl rfl rfl ?_
    intro u5 hS Qn
    replace Q2 := Qn
    clear Qn
    replace Q1 := hS.other _ _ ne_k1_k2 Q1
    replace M := hS.mo _ N_k2 M
    clear hS
    refine w_nil (xn_then (w_ret ?_))
    exact w_ret1 _ (.agg ((vFl true).cells).toArray) rfl ⟨k2, rfl, (run_row Q2 28 0 10 ((vFl true).cells) rfl Tryz.underlying28 rfl sz28)⟩ ⟨vrt (x := (vFl true)) rfl (by simp [blkV, hf0, hf2p]), M⟩
   | false =>
    have hf2p := of_decide_eq_false hf2
    refine wl_b .eql 3 (.tmp 14) (.const (.int .i64 (0))) (.int .i64 (x.k)) (.int .i64 (0)) (.bool false) (eq3 hf2 _ _ _) ?_
    refine wl_call 33 [(.tmp 15)] _ [.bool false] (.agg ((vFl false).cells).toArray) rfl rfl (fun _ _ => by kernel_rfl) (flag_n false _) rfl ?_
    intro u4 hq
    replace Q1 := Q1.mo hq
    replace Q2 := Q2.mo hq
    replace M := M.trans hq
    clear hq
    refine wl_st 28 (.tmp 2) (.tmp 16) k2 0 (((vFl false).cells).toArray) _ ((vFl false).cells) Q2 rfl rfl rfl rfl rfl sz28 rfl rfl rfl ?_
    intro u5 hS Qn
    replace Q2 := Qn
    clear Qn
    replace Q1 := hS.other _ _ ne_k1_k2 Q1
    replace M := hS.mo _ N_k2 M
    clear hS
    refine w_nil (xn_then (w_ret ?_))
    exact w_ret1 _ (.agg ((vFl false).cells).toArray) rfl ⟨k2, rfl, (run_row Q2 28 0 10 ((vFl false).cells) rfl Tryz.underlying28 rfl sz28)⟩ ⟨vrt (x := (vFl false)) rfl (by simp [blkV, hf0, hf1p, hf2p]), M⟩
 | false =>
  refine wl_call 13 [(.tmp 4)] _ [.agg (x.cells).toArray] (.int .i64 (1)) rfl rfl (fun _ _ => by kernel_rfl) (check_f hf0 hx _) rfl ?_
  intro u3 hq
  replace Q1 := Q1.mo hq
  replace Q2 := Q2.mo hq
  replace M := M.trans hq
  clear hq
  refine wl_b .neq 32 (.tmp 5) (.const (.int .i64 (0))) (.int .i64 (1)) (.int .i64 (0)) (.bool true) (ne34 (r := false) rfl _ _ _) ?_
  refine wl_m (.tmp 6) (.bool true) ?_
  refine w_nil (xn_then (w_condT rfl (w_seq (w_reg ?_))))
  refine wl_call 15 [(.const (.int .i64 (2)))] _ [.int .i64 (2)] (.agg ((vBad (2)).cells).toArray) rfl rfl (fun _ _ => by kernel_rfl) (bad_n (2) _) rfl ?_
  intro u4 hq
  replace Q1 := Q1.mo hq
  replace Q2 := Q2.mo hq
  replace M := M.trans hq
  clear hq
  refine wl_st 28 (.tmp 2) (.tmp 7) k2 0 (((vBad (2)).cells).toArray) _ ((vBad (2)).cells) Q2 rfl rfl rfl rfl rfl sz28 rfl rfl rfl ?_
  intro u5 hS Qn
  replace Q2 := Qn
  clear Qn
  replace Q1 := hS.other _ _ ne_k1_k2 Q1
  replace M := hS.mo _ N_k2 M
  clear hS
  refine w_nil (xn_then (w_ret (xr_blk (xr_then ?_))))
  exact w_ret1 _ (.agg ((vBad (2)).cells).toArray) rfl ⟨k2, rfl, (run_row Q2 28 0 10 ((vBad (2)).cells) rfl Tryz.underlying28 rfl sz28)⟩ ⟨vrt (x := (vBad (2))) rfl (by simp [blkV, hf0]), M⟩
end Go.Proofs.YtogomodbcjpfiaaGreatDoor
namespace Go.Proofs.YtogomodbcjpfiaaGreatDoor
open Go.RowKit
theorem inf5 : ∃ i, Tryz.prog.info? 5 = some i ∧ i.zero = some (.int .u8 0) ∧ i.size = 1 ∧ i.bytes = 1 := by
 have h : (Tryz.prog.info? 5).map (fun i => (i.zero, i.size, i.bytes)) = some (some (.int .u8 0), 1, 1) := by kernel_rfl
 cases hi : Tryz.prog.info? 5 with
 | none => rw [hi] at h; cases h
 | some i =>
  rw [hi] at h
  simp at h
  exact ⟨i, rfl, h.1, h.2.1, h.2.2⟩
structure AppW (v : Value) (w w' : World) : Prop where
 os : w'.os = w.os
 tape : w'.tape = w.tape
 output : w'.output = w.output
 size : w.heap.size ≤ w'.heap.size
 block : ∀ k, k < w.heap.size → v.ownBlock ≠ some k → w'.heap[k]? = w.heap[k]?
 fz : ∀ a, w'.frozen? a = w.frozen? a
theorem AppW.at {v : Value} {w w' : World} (h : AppW v w w') {j : Nat} {vs : List Value} (hA : At w j vs) (hn : v.ownBlock ≠ some j) : At w' j vs :=
 ⟨fun i u hu => (World.cell?_of_block (a := ⟨j, 0 + i, none⟩) (h.block j hA.2.2 hn)).trans (hA.1 i u hu), fun o => (h.fz _).trans (hA.2.1 o), Nat.lt_of_lt_of_le hA.2.2 h.size⟩
theorem AppW.mo {v : Value} {w w' a : World} (h : AppW v w w') (hM : Mo a w) (hn : ∀ k, v.ownBlock = some k → a.heap.size ≤ k) : Mo a w' :=
 ⟨⟨h.os.trans hM.1.os, h.tape.trans hM.1.tape, h.output.trans hM.1.output, Nat.le_trans hM.1.size h.size, fun k hk => (h.block k (Nat.lt_of_lt_of_le hk hM.1.size) (fun e => by have := hn k e; omega)).trans (hM.1.block k hk)⟩, fun x => (h.fz x).trans (hM.2 x)⟩
end Go.Proofs.YtogomodbcjpfiaaGreatDoor

namespace Go.Proofs.YtogomodbcjpfiaaGreatDoor.V
open Go.RowKit
theorem AppW.mw {v : Value} {a b c : World} (h : AppW v b c) (hM : Mw a b) (hn : ∀ k, v.ownBlock = some k → a.heap.size ≤ k) : Mw a c :=
 ⟨h.os.trans hM.os, h.tape.trans hM.tape, h.output.trans hM.output, Nat.le_trans hM.size h.size, fun k hk => (h.block k (Nat.lt_of_lt_of_le hk hM.size) (fun e => by have := hn k e; omega)).trans (hM.block k hk)⟩
end Go.Proofs.YtogomodbcjpfiaaGreatDoor.V

namespace Go.Proofs.YtogomodbcjpfiaaGreatDoor
open Go.RowKit
theorem app62 (w : World) (ty : TypeId) (N : Nat) (v : Value) (n : Nat) (xs : List Value) (hown : w.ownsRow N 5 1 v n xs) (k m c : Nat) (news : List Value) (hl : news.length = m * 1) (hA : At w k news) (h1 : ∀ u ∈ news, u.oneCell' = true) (hm : 0 < m) (hn : n + m ≤ 70000000000000) (hN : N ≤ w.heap.size) :
  ∃ v' w', (Builtin.append_ #[81, 81] ty #[v, .slice (some ⟨k, 0, none⟩) m c]).run Tryz.prog w = .ok v' w' ∧ w'.ownsRow N 5 1 v' (n + m) (xs ++ news) ∧ AppW v w w' ∧ (v'.ownBlock = v.ownBlock ∨ v'.ownBlock = some w.heap.size) := by
 obtain ⟨i, hi, hz, hs, hby⟩ := inf5
 have hnews : ∀ j u, news[j]? = some u → w.cell? ((⟨k, 0, none⟩ : Addr).add j) = some u := fun j u hu => by
  rw [Addr.add_mid]; have := hA.1 j u hu; simpa using this
 obtain ⟨v', w', hr, h2, h3, _, h5⟩ := run_append_own_at (P := Tryz.prog) w N 81 ty 5 i _ 1 1 Tryz.underlying81 hi hz hs hby rfl (by decide) v n xs hown ⟨k, 0, none⟩ m c news hl hnews h1 (by unfold maxLen; omega) (by omega) hN
 refine ⟨v', w', hr, h2, ⟨h3.os, h3.tape, h3.output, h3.size, fun j hj hne => h3.block j hj (fun e => hne e.symm), ?_⟩, h5⟩
 rcases hown.2 with ⟨rfl, rfl⟩ | ⟨g, cap, cur, rfl, hbg, hg, hnc, hcm, hcs, htake⟩
 ·have hr2 := run_append_nil (P := Tryz.prog) w 81 ty 5 i _ Tryz.underlying81 hi hz ⟨k, 0, none⟩ m c news (by rw [hs]; exact hl) hnews hm (by omega) (by first | omega | (rw [hby]; omega) | (rw [hby]; exact growslice_fits (n := 0) (by omega) (by omega)))
  rw [hr2] at hr
  cases hr
  exact ((Mo.refl w).drew.alloc _ _).2
 ·by_cases hroom : n + m ≤ cap
  ·have hr2 := run_append_room (P := Tryz.prog) w 81 ty 5 i Tryz.underlying81 hi g n cap cur hg ⟨k, 0, none⟩ m c news (by rw [hs]; exact hl) hnews h1 hroom (by rw [hs]; first | omega | (rw [hl]; omega) | (simp [hl]; omega))
   rw [hr2] at hr
   cases hr
   intro a
   by_cases e : a.block = g
   ·have h9 := setRow_heap w g cur (cur.toList.take (n * i.size) ++ news ++ cur.toList.drop (n * i.size + news.length)).toArray 5 (0, 0) hg
    simp only [World.frozen?, e, h9, hg]
   ·exact World.frozen?_of_block (setRow_other w g a.block _ e)
  ·have hr2 := run_append_grow (P := Tryz.prog) w 81 ty 5 i _ Tryz.underlying81 hi hz ⟨g, 0, none⟩ n cap xs (by rw [hs]; exact hown.1) (hown.cells (g := g) rfl) ⟨k, 0, none⟩ m c news (by rw [hs]; exact hl) hnews (by omega) (by omega) (by rw [hby]; exact growslice_fits (by omega) (by omega))
   rw [hr2] at hr
   cases hr
   exact ((Mo.refl w).drew.alloc _ _).2
namespace V
theorem own_mw5 {w w' : World} {N : Nat} {v : Value} {n : Nat} {xs : List Value} (h : w.ownsRow N 5 1 v n xs) (m : Mw w w') : w'.ownsRow N 5 1 v n xs :=
 h.kept (row := none) ⟨m.os, m.tape, m.output, m.size, fun k hk _ => m.block k hk⟩ (by cases e : v.ownBlock <;> simp)
section
variable {o : Oper} {n : Nat} {l : List (Nat × Value)} {w : World} {ops : Array Oper} {rest : List Oper} {Q : Exit → Act → World → Prop}
theorem wl_app62 (s x : Operand) (N : Nat) (v : Value) (q : Nat) (xs : List Value) (k m c : Nat) (news : List Value) (ho : o.op = .call { callee := .builtin .append, args := #[s, x], argTypes := #[81, 81] }) (hs : evl n l s = v) (hx : evl n l x = .slice (some ⟨k, 0, none⟩) m c)
  (hown : w.ownsRow N 5 1 v q xs) (hl : news.length = m * 1) (hA : At w k news) (h1 : ∀ u ∈ news, u.oneCell' = true) (hm : 0 < m) (hn : q + m ≤ 70000000000000) (hN : N ≤ w.heap.size) (hg : wnt n l ops o = true)
  (hk : ∀ v' w', w'.ownsRow N 5 1 v' (q + m) (xs ++ news) → AppW v w w' → (v'.ownBlock = v.ownBlock ∨ v'.ownBlock = some w.heap.size) → WL Tryz.prog ops Q rest n (ext l o.dst v') w') : WL Tryz.prog ops Q (o :: rest) n l w := by
 obtain ⟨v', w', hr, h2, h3, h4⟩ := app62 w o.type N v q xs hown k m c news hl hA h1 hm hn hN
 refine ⟨l_step hg (o_val v' (w' := w') ?_ (hk v' w' h2 h3 h4).out)⟩
 unfold execOp
 simp only [ho, resolve, invoke, builtin, Sem.run_bind, Sem.run_pure, Result.andThen_ok, List.map_toArray, List.map_cons, List.map_nil, hs, hx, hr]
end
def OB (N : Nat) (v : Value) (L : List UInt8) (w : World) : Prop := w.ownsRow N 5 1 v L.length (Lib.byteCells L)
theorem OB.mw {N : Nat} {v : Value} {L : List UInt8} {w w' : World} (h : OB N v L w) (m : Mw w w') : OB N v L w' := own_mw5 h m
theorem OB.nil (N : Nat) (w : World) : OB N (.slice none 0 0) [] w := ⟨rfl, .inl ⟨rfl, rfl⟩⟩
theorem u8c {c : Int} (h : 0 ≤ c ∧ c ≤ 255) : (Value.int .u8 c) = .int .u8 ((c.toNat.toUInt8).toNat : Nat) := by
 have e : ((c.toNat.toUInt8).toNat : Int) = c := by
  rw [Nat.toUInt8, UInt8.toNat_ofNat']
  omega
 rw [e]
theorem fold_push : ∀ (L : List UInt8) (acc : ByteArray), List.foldl (fun r (n : Int) => r.push (UInt8.ofNat n.toNat)) acc (L.map (fun b => (b.toNat : Int))) = ⟨(acc.data.toList ++ L).toArray⟩
 | [], acc => by cases acc; simp
 | c :: L, acc => by
  rw [List.map_cons, List.foldl_cons, fold_push L]
  simp [ByteArray.push]
theorem str_own {w : World} {N : Nat} {v : Value} {L : List UInt8} (h : OB N v L w) : (convert 81 9 v).run Tryz.prog w = .ok (.string ⟨L.toArray⟩) w := by
 rcases h.2 with ⟨rfl, h0⟩ | ⟨g, cap, cur, rfl, hbg, hg, hnc, hcm, hcs, htake⟩
 ·have : L = [] := List.length_eq_zero_iff.1 h0
  subst this
  rw [run_convert_bytes_string w 81 9 5 _ _ _ Tryz.underlying81 Tryz.underlying5 Tryz.underlying9]
  rfl
 ·have hA := h.cells (g := g) rfl
  rw [run_convert_bytes_string w 81 9 5 _ _ _ Tryz.underlying81 Tryz.underlying5 Tryz.underlying9, run_bytesToString w _ _ _ (L.map (fun b => (b.toNat : Int)))]
  ·rw [fold_push]; rfl
  ·have := run_loadCells_list (P := Tryz.prog) w ⟨g, 0, none⟩ (Lib.byteCells L) (fun j v hv => hA j v hv)
   simpa [Lib.byteCells, Function.comp_def] using this
section
variable {o : Oper} {n : Nat} {l : List (Nat × Value)} {w : World} {ops : Array Oper} {rest : List Oper} {Q : Exit → Act → World → Prop}
theorem bs62_1 (c0 : Int) (w : World) : (Instr.buildSlice 81 1 #[(0, .int .u8 c0)]).run Tryz.prog w = .ok (.slice (some ⟨w.heap.size, 0, none⟩) 1 1) (w.alloc (.cells #[.int .u8 c0] 5)) := by kernel_rfl
theorem wl_put1 (o2 : Oper) (x0 s : Operand) (d : Nat) (c0 : Int) (N : Nat) (v : Value) (L : List UInt8) (ho : o.op = .buildSlice 81 1 #[(0, x0)]) (hd : o.dst = some d) (h0 : evl n l x0 = .int .u8 c0) (hg : wnt n l ops o = true)
  (ho2 : o2.op = .call { callee := .builtin .append, args := #[s, .tmp d], argTypes := #[81, 81] }) (hd9 : evl n (ext l (some d) (.slice (some ⟨w.heap.size, 0, none⟩) 1 1)) (.tmp d) = .slice (some ⟨w.heap.size, 0, none⟩) 1 1) (hs : evl n (ext l (some d) (.slice (some ⟨w.heap.size, 0, none⟩) 1 1)) s = v) (hg2 : wnt n (ext l (some d) (.slice (some ⟨w.heap.size, 0, none⟩) 1 1)) ops o2 = true)
  (hown : OB N v L w) (r0 : 0 ≤ c0 ∧ c0 ≤ 255) (hn : L.length + 1 ≤ 70000000000000) (hN : N ≤ w.heap.size)
  (hk : ∀ v' w', OB N v' (L ++ [c0.toNat.toUInt8]) w' → (∀ a : World, N = a.heap.size → Mw a w → Mw a w') → (∀ j vs, j < w.heap.size → v.ownBlock ≠ some j → At w j vs → At w' j vs) → WL Tryz.prog ops Q rest n (ext (ext l (some d) (.slice (some ⟨w.heap.size, 0, none⟩) 1 1)) o2.dst v') w') : WL Tryz.prog ops Q (o :: o2 :: rest) n l w := by
 refine ⟨l_step hg (o_val (.slice (some ⟨w.heap.size, 0, none⟩) 1 1) (w' := w.alloc (.cells #[.int .u8 c0] 5)) (by
  have h := bs62_1 c0 w
  simp [execOp, ho, h0, h]) ?_)⟩
 have hal : Mw w (w.alloc (.cells #[.int .u8 c0] 5)) := (Mw.refl _).alloc _ _
 rw [hd]
 refine (wl_app62 s (.tmp d) N v L.length (Lib.byteCells L) w.heap.size 1 1 [.int .u8 c0] ho2 hs hd9 (OB.mw hown hal) rfl (At.new w #[.int .u8 c0] 5) (fun u hu => by simp at hu; rcases hu with rfl <;> rfl) (by decide) hn (Nat.le_trans hN hal.size) hg2 ?_).out
 intro v' w' hO hA hb
 refine hk v' w' ?_ (fun a ha hM => AppW.mw hA (hM.trans hal) (fun j e => by rw [← ha]; exact ((OB.mw hown hal).lt j e).1)) (fun j vs hj hne hq => AppW.at hA (At.mo hq hal) hne)
 unfold OB
 rw [Lib.byteCells_append, List.length_append]
 have e : Lib.byteCells [c0.toNat.toUInt8] = [.int .u8 c0] := by
  simp only [Lib.byteCells, List.map_cons, List.map_nil]
  rw [u8c r0]
 rw [e]
 exact hO
theorem bs62_2 (c0 c1 : Int) (w : World) : (Instr.buildSlice 81 2 #[(0, .int .u8 c0), (1, .int .u8 c1)]).run Tryz.prog w = .ok (.slice (some ⟨w.heap.size, 0, none⟩) 2 2) (w.alloc (.cells #[.int .u8 c0, .int .u8 c1] 5)) := by kernel_rfl
theorem wl_put2 (o2 : Oper) (x0 x1 s : Operand) (d : Nat) (c0 c1 : Int) (N : Nat) (v : Value) (L : List UInt8) (ho : o.op = .buildSlice 81 2 #[(0, x0), (1, x1)]) (hd : o.dst = some d) (h0 : evl n l x0 = .int .u8 c0) (h1 : evl n l x1 = .int .u8 c1) (hg : wnt n l ops o = true)
  (ho2 : o2.op = .call { callee := .builtin .append, args := #[s, .tmp d], argTypes := #[81, 81] }) (hd9 : evl n (ext l (some d) (.slice (some ⟨w.heap.size, 0, none⟩) 2 2)) (.tmp d) = .slice (some ⟨w.heap.size, 0, none⟩) 2 2) (hs : evl n (ext l (some d) (.slice (some ⟨w.heap.size, 0, none⟩) 2 2)) s = v) (hg2 : wnt n (ext l (some d) (.slice (some ⟨w.heap.size, 0, none⟩) 2 2)) ops o2 = true)
  (hown : OB N v L w) (r0 : 0 ≤ c0 ∧ c0 ≤ 255) (r1 : 0 ≤ c1 ∧ c1 ≤ 255) (hn : L.length + 2 ≤ 70000000000000) (hN : N ≤ w.heap.size)
  (hk : ∀ v' w', OB N v' (L ++ [c0.toNat.toUInt8, c1.toNat.toUInt8]) w' → (∀ a : World, N = a.heap.size → Mw a w → Mw a w') → (∀ j vs, j < w.heap.size → v.ownBlock ≠ some j → At w j vs → At w' j vs) → WL Tryz.prog ops Q rest n (ext (ext l (some d) (.slice (some ⟨w.heap.size, 0, none⟩) 2 2)) o2.dst v') w') : WL Tryz.prog ops Q (o :: o2 :: rest) n l w := by
 refine ⟨l_step hg (o_val (.slice (some ⟨w.heap.size, 0, none⟩) 2 2) (w' := w.alloc (.cells #[.int .u8 c0, .int .u8 c1] 5)) (by
  have h := bs62_2 c0 c1 w
  simp [execOp, ho, h0, h1, h]) ?_)⟩
 have hal : Mw w (w.alloc (.cells #[.int .u8 c0, .int .u8 c1] 5)) := (Mw.refl _).alloc _ _
 rw [hd]
 refine (wl_app62 s (.tmp d) N v L.length (Lib.byteCells L) w.heap.size 2 2 [.int .u8 c0, .int .u8 c1] ho2 hs hd9 (OB.mw hown hal) rfl (At.new w #[.int .u8 c0, .int .u8 c1] 5) (fun u hu => by simp at hu; rcases hu with rfl | rfl <;> rfl) (by decide) hn (Nat.le_trans hN hal.size) hg2 ?_).out
 intro v' w' hO hA hb
 refine hk v' w' ?_ (fun a ha hM => AppW.mw hA (hM.trans hal) (fun j e => by rw [← ha]; exact ((OB.mw hown hal).lt j e).1)) (fun j vs hj hne hq => AppW.at hA (At.mo hq hal) hne)
 unfold OB
 rw [Lib.byteCells_append, List.length_append]
 have e : Lib.byteCells [c0.toNat.toUInt8, c1.toNat.toUInt8] = [.int .u8 c0, .int .u8 c1] := by
  simp only [Lib.byteCells, List.map_cons, List.map_nil]
  rw [u8c r0, u8c r1]
 rw [e]
 exact hO
theorem bs62_4 (c0 c1 c2 c3 : Int) (w : World) : (Instr.buildSlice 81 4 #[(0, .int .u8 c0), (1, .int .u8 c1), (2, .int .u8 c2), (3, .int .u8 c3)]).run Tryz.prog w = .ok (.slice (some ⟨w.heap.size, 0, none⟩) 4 4) (w.alloc (.cells #[.int .u8 c0, .int .u8 c1, .int .u8 c2, .int .u8 c3] 5)) := by kernel_rfl
theorem wl_put4 (o2 : Oper) (x0 x1 x2 x3 s : Operand) (d : Nat) (c0 c1 c2 c3 : Int) (N : Nat) (v : Value) (L : List UInt8) (ho : o.op = .buildSlice 81 4 #[(0, x0), (1, x1), (2, x2), (3, x3)]) (hd : o.dst = some d) (h0 : evl n l x0 = .int .u8 c0) (h1 : evl n l x1 = .int .u8 c1) (h2 : evl n l x2 = .int .u8 c2) (h3 : evl n l x3 = .int .u8 c3) (hg : wnt n l ops o = true)
  (ho2 : o2.op = .call { callee := .builtin .append, args := #[s, .tmp d], argTypes := #[81, 81] }) (hd9 : evl n (ext l (some d) (.slice (some ⟨w.heap.size, 0, none⟩) 4 4)) (.tmp d) = .slice (some ⟨w.heap.size, 0, none⟩) 4 4) (hs : evl n (ext l (some d) (.slice (some ⟨w.heap.size, 0, none⟩) 4 4)) s = v) (hg2 : wnt n (ext l (some d) (.slice (some ⟨w.heap.size, 0, none⟩) 4 4)) ops o2 = true)
  (hown : OB N v L w) (r0 : 0 ≤ c0 ∧ c0 ≤ 255) (r1 : 0 ≤ c1 ∧ c1 ≤ 255) (r2 : 0 ≤ c2 ∧ c2 ≤ 255) (r3 : 0 ≤ c3 ∧ c3 ≤ 255) (hn : L.length + 4 ≤ 70000000000000) (hN : N ≤ w.heap.size)
  (hk : ∀ v' w', OB N v' (L ++ [c0.toNat.toUInt8, c1.toNat.toUInt8, c2.toNat.toUInt8, c3.toNat.toUInt8]) w' → (∀ a : World, N = a.heap.size → Mw a w → Mw a w') → (∀ j vs, j < w.heap.size → v.ownBlock ≠ some j → At w j vs → At w' j vs) → WL Tryz.prog ops Q rest n (ext (ext l (some d) (.slice (some ⟨w.heap.size, 0, none⟩) 4 4)) o2.dst v') w') : WL Tryz.prog ops Q (o :: o2 :: rest) n l w := by
 refine ⟨l_step hg (o_val (.slice (some ⟨w.heap.size, 0, none⟩) 4 4) (w' := w.alloc (.cells #[.int .u8 c0, .int .u8 c1, .int .u8 c2, .int .u8 c3] 5)) (by
  have h := bs62_4 c0 c1 c2 c3 w
  simp [execOp, ho, h0, h1, h2, h3, h]) ?_)⟩
 have hal : Mw w (w.alloc (.cells #[.int .u8 c0, .int .u8 c1, .int .u8 c2, .int .u8 c3] 5)) := (Mw.refl _).alloc _ _
 rw [hd]
 refine (wl_app62 s (.tmp d) N v L.length (Lib.byteCells L) w.heap.size 4 4 [.int .u8 c0, .int .u8 c1, .int .u8 c2, .int .u8 c3] ho2 hs hd9 (OB.mw hown hal) rfl (At.new w #[.int .u8 c0, .int .u8 c1, .int .u8 c2, .int .u8 c3] 5) (fun u hu => by simp at hu; rcases hu with rfl | rfl | rfl | rfl <;> rfl) (by decide) hn (Nat.le_trans hN hal.size) hg2 ?_).out
 intro v' w' hO hA hb
 refine hk v' w' ?_ (fun a ha hM => AppW.mw hA (hM.trans hal) (fun j e => by rw [← ha]; exact ((OB.mw hown hal).lt j e).1)) (fun j vs hj hne hq => AppW.at hA (At.mo hq hal) hne)
 unfold OB
 rw [Lib.byteCells_append, List.length_append]
 have e : Lib.byteCells [c0.toNat.toUInt8, c1.toNat.toUInt8, c2.toNat.toUInt8, c3.toNat.toUInt8] = [.int .u8 c0, .int .u8 c1, .int .u8 c2, .int .u8 c3] := by
  simp only [Lib.byteCells, List.map_cons, List.map_nil]
  rw [u8c r0, u8c r1, u8c r2, u8c r3]
 rw [e]
 exact hO
end
end V
end Go.Proofs.YtogomodbcjpfiaaGreatDoor

namespace Go.Proofs.YtogomodbcjpfiaaGreatDoor.V
open Go.RowKit
theorem quo16 {b : Nat} (h : b < 256) (x y : Operand) (w : World) : (do eqGuard .quo 5 x y (.int .u8 (b : Int)) (.int .u8 16); binOp .quo 5 (.int .u8 (b : Int)) (.int .u8 16)).run Tryz.prog w = .ok (.int .u8 ((b / 16 : Nat) : Int)) w := by
 have e : (do eqGuard .quo 5 x y (.int .u8 (b : Int)) (.int .u8 16); binOp .quo 5 (.int .u8 (b : Int)) (.int .u8 16)).run Tryz.prog w = .ok (.int .u8 (IntKind.u8.wrap (Int.tdiv (b : Int) 16))) w := by kernel_rfl
 have h2 : IntKind.u8.wrap (Int.tdiv (b : Int) 16) = ((b / 16 : Nat) : Int) := by
  rw [IntKind.wrap_u8, Int.tdiv_eq_ediv_of_nonneg (by omega)]; omega
 rw [e, h2]
theorem rem16 {b : Nat} (h : b < 256) (x y : Operand) (w : World) : (do eqGuard .rem 5 x y (.int .u8 (b : Int)) (.int .u8 16); binOp .rem 5 (.int .u8 (b : Int)) (.int .u8 16)).run Tryz.prog w = .ok (.int .u8 ((b % 16 : Nat) : Int)) w := by
 have e : (do eqGuard .rem 5 x y (.int .u8 (b : Int)) (.int .u8 16); binOp .rem 5 (.int .u8 (b : Int)) (.int .u8 16)).run Tryz.prog w = .ok (.int .u8 (Int.tmod (b : Int) 16)) w := by kernel_rfl
 have h2 : Int.tmod (b : Int) 16 = ((b % 16 : Nat) : Int) := by
  rw [Int.tmod_eq_emod_of_nonneg (by omega)]; omega
 rw [e, h2]
theorem lt5d {b c : Nat} {r : Bool} (h : decide (b < c) = r) (x y : Operand) (w : World) : (do eqGuard .lss 5 x y (.int .u8 (b : Int)) (.int .u8 (c : Int)); binOp .lss 5 (.int .u8 (b : Int)) (.int .u8 (c : Int))).run Tryz.prog w = .ok (.bool r) w := by
 subst h; simp [go_sem]
theorem gt5d {b c : Nat} {r : Bool} (h : decide (c < b) = r) (x y : Operand) (w : World) : (do eqGuard .gtr 5 x y (.int .u8 (b : Int)) (.int .u8 (c : Int)); binOp .gtr 5 (.int .u8 (b : Int)) (.int .u8 (c : Int))).run Tryz.prog w = .ok (.bool r) w := by
 subst h; simp [go_sem]
theorem OB.new1 {N : Nat} {w : World} (c : Nat) (hc : c < 256) (hN : N ≤ w.heap.size) : OB N (.slice (some ⟨w.heap.size, 0, none⟩) 1 1) [c.toUInt8] (w.alloc (.cells #[.int .u8 (c : Int)] 5)) := by
 refine ⟨rfl, .inr ⟨w.heap.size, 1, #[.int .u8 (c : Int)], rfl, hN, by show (w.heap.push _)[w.heap.size]? = _; rw [Array.getElem?_push, if_pos rfl], Nat.le_refl 1, by decide, rfl, ?_⟩⟩
 simp [Lib.byteCells, tu8 hc]
section
variable {o : Oper} {n : Nat} {l : List (Nat × Value)} {w : World} {ops : Array Oper} {rest : List Oper} {Q : Exit → Act → World → Prop}
theorem wl_new1 (x : Operand) (c : Nat) (N : Nat) (hc : c < 256) (ho : o.op = .buildSlice 81 1 #[(0, x)]) (hx : evl n l x = .int .u8 (c : Int)) (hN : N ≤ w.heap.size) (hg : wnt n l ops o = true)
  (hk : ∀ v w', OB N v [c.toUInt8] w' → Mw w w' → WL Tryz.prog ops Q rest n (ext l o.dst v) w') : WL Tryz.prog ops Q (o :: rest) n l w :=
 ⟨l_step hg (o_val (.slice (some ⟨w.heap.size, 0, none⟩) 1 1) (w' := w.alloc (.cells #[.int .u8 (c : Int)] 5)) (by
  have h := bs62_1 (c : Int) w
  simp [execOp, ho, hx, h]) (hk _ _ (OB.new1 c hc hN) ((Mw.refl _).alloc _ _)).out)⟩
end
theorem rquote_n (s : ByteArray) (w : World) (hs : s.size ≤ 1000000000000) : Calls Tryz.prog 58 #[.string s] w fun e w' => e = .returned (.string ⟨(qt (by8 s)).toArray⟩) ∧ Mw w w' := by
 refine w_enter 51 Tryz.func58 Tryz.ntmps58 rfl rfl ?_
 have M : Mw w w := Mw.refl _
 refine w_seq (w_reg ?_)
 refine wl_m (.const (.string ⟨#[]⟩)) (.string ⟨#[]⟩) ?_
 refine w_nil (xn_then (w_seq (w_reg ?_)))
 refine wl_new1 (.const (.int .u8 (34))) 34 w.heap.size (by decide) rfl rfl M.size rfl ?_
 intro vo1 w1 hown hq
 replace M := M.trans hq
 clear hq
 refine wl_m (.tmp 6) (vo1) ?_
 refine w_nil (xn_then (w_seq (w_seq (w_reg ?_))))
 refine wl_m (.const (.int .i64 (0))) (.int .i64 (0)) ?_
 refine w_nil (xn_then (w_block ?_))
 refine w_loop (fun m l w1 => ∃ (k : Nat) (v : Value), m = s.size - k ∧ look l 0 = .string s ∧ look l 3 = v ∧ look l 4 = .int .i64 ((k : Nat) : Int) ∧ k ≤ s.size ∧ OB w.heap.size v (34 :: qi ((by8 s).take k)) w1 ∧ Mw w w1) _ ⟨0, _, rfl, rfl, rfl, rfl, Nat.zero_le _, hown, M⟩ ?_
 clear M hown
 rintro m l wl ⟨k, v, rfl, e0, e3, e4, hk, hown, M⟩
 obtain ⟨b, hb, hb2⟩ := bt_nat s k
 refine w_seq (w_seq ?_)
 cases hf20 : decide (k < s.size) with
 | true =>
  have hf20p := of_decide_eq_true hf20
  refine w_reg ?_
  refine wl_mv (.tmp 4) (.int .i64 ((k : Nat) : Int)) (fun _ => rfl) e4 rfl ?_
  refine wl_mv (.tmp 0) (.string s) (fun _ => rfl) e0 rfl ?_
  refine wl_val (.int .i64 ((s.size : Nat) : Int)) (len_s _ _ s (by exact rfl) _ _ _ _ _ _) rfl ?_
  refine wl_b .lss 3 (.tmp 7) (.tmp 9) (.int .i64 ((k : Nat) : Int)) (.int .i64 ((s.size : Nat) : Int)) (.bool true) (ltN hf20 _ _ _) ?_
  refine w_nil (xn_then (w_condT rfl (w_skip (xn_then (w_seq (w_block (w_seq (w_reg ?_))))))))
  refine wl_mv (.tmp 0) (.string s) (fun _ => rfl) e0 rfl ?_
  refine wl_mv (.tmp 4) (.int .i64 ((k : Nat) : Int)) (fun _ => rfl) e4 rfl ?_
  refine wl_bin (fun x y => Instr.index 9 x y) (.tmp 13) (.tmp 14) (.string s) (.int .i64 ((k : Nat) : Int)) (.int .u8 (b : Int)) (fun _ => rfl) rfl rfl (idx_bb hb (by omega) _) rfl ?_
  refine wl_m (.tmp 15) (.int .u8 (b : Int)) ?_
  refine w_nil (xn_then (w_block (w_seq ?_)))
  cases hf21 : decide (b = 34) with
  | true =>
   have hf21p := of_decide_eq_true hf21
   refine w_reg ?_
   refine wl_m (.tmp 5) (.int .u8 (b : Int)) ?_
   refine wl_b .eql 5 (.tmp 21) (.const (.int .u8 (34))) (.int .u8 (b : Int)) (.int .u8 (34)) (.bool true) (eq5d hf21 _ _ _) ?_
   refine wl_m (.tmp 22) (.bool true) ?_
   refine wl_skip rfl (wl_skip rfl ?_)
   refine wl_pick (.tmp 23) (.const (.bool true)) (.tmp 25) true (.bool true) (fun _ => rfl) rfl rfl rfl ?_
   refine wl_m (.tmp 26) (.bool true) ?_
   refine w_nil (xn_then (w_condT rfl (w_reg ?_)))
   refine wl_mv (.tmp 3) (v) (fun _ => rfl) e3 rfl ?_
   refine wl_m (.tmp 5) (.int .u8 (b : Int)) ?_
   refine wl_put2 _ (.const (.int .u8 (92))) (.tmp 28) (.tmp 27) 29 ((92)) ((b : Int)) w.heap.size v (34 :: qi ((by8 s).take k)) rfl rfl rfl rfl rfl rfl rfl rfl rfl hown (by omega) (by omega) (by have hql := qi_len ((by8 s).take k); simp only [List.length_cons, List.length_take, by8_len] at hql ⊢; omega) M.size ?_
   intro vo11 w11 hOn hMn hAn
   replace M := hMn w rfl M
   replace hown := hOn
   clear hOn hMn hAn
   refine wl_m (.tmp 30) (vo11) ?_
   refine w_nil (xn_blk (xn_blk (xn_then (w_reg ?_))))
   refine wl_mv (.tmp 4) (.int .i64 ((k : Nat) : Int)) (fun _ => rfl) e4 rfl ?_
   refine wl_b .add 3 (.tmp 11) (.const (.int .i64 (1))) (.int .i64 ((k : Nat) : Int)) (.int .i64 (1)) (.int .i64 ((k + 1 : Nat) : Int)) (addk (a := k) (b := 1) rfl (by omega) _ _ _) ?_
   refine wl_m (.tmp 12) (.int .i64 ((k + 1 : Nat) : Int)) ?_
   refine w_nil ?_
   exact xn_loop (s.size - (k + 1)) (by omega) ⟨k + 1, _, rfl, e0, rfl, rfl, by omega, by rw [← qi_step (by omega) hb (qb_1 (Or.inl hf21p))]; exact hown, M⟩
  | false =>
   have hf21p := of_decide_eq_false hf21
   cases hf22 : decide (b = 92) with
   | true =>
    have hf22p := of_decide_eq_true hf22
    refine w_reg ?_
    refine wl_m (.tmp 5) (.int .u8 (b : Int)) ?_
    refine wl_b .eql 5 (.tmp 21) (.const (.int .u8 (34))) (.int .u8 (b : Int)) (.int .u8 (34)) (.bool false) (eq5d hf21 _ _ _) ?_
    refine wl_m (.tmp 22) (.bool false) ?_
    refine wl_m (.tmp 5) (.int .u8 (b : Int)) ?_
    refine wl_b .eql 5 (.tmp 24) (.const (.int .u8 (92))) (.int .u8 (b : Int)) (.int .u8 (92)) (.bool true) (eq5d hf22 _ _ _) ?_
    refine wl_pick (.tmp 23) (.const (.bool true)) (.tmp 25) false (.bool true) (fun _ => rfl) rfl rfl rfl ?_
    refine wl_m (.tmp 26) (.bool true) ?_
    refine w_nil (xn_then (w_condT rfl (w_reg ?_)))
    refine wl_mv (.tmp 3) (v) (fun _ => rfl) e3 rfl ?_
    refine wl_m (.tmp 5) (.int .u8 (b : Int)) ?_
    refine wl_put2 _ (.const (.int .u8 (92))) (.tmp 28) (.tmp 27) 29 ((92)) ((b : Int)) w.heap.size v (34 :: qi ((by8 s).take k)) rfl rfl rfl rfl rfl rfl rfl rfl rfl hown (by omega) (by omega) (by have hql := qi_len ((by8 s).take k); simp only [List.length_cons, List.length_take, by8_len] at hql ⊢; omega) M.size ?_
    intro vo11 w11 hOn hMn hAn
    replace M := hMn w rfl M
    replace hown := hOn
    clear hOn hMn hAn
    refine wl_m (.tmp 30) (vo11) ?_
    refine w_nil (xn_blk (xn_blk (xn_then (w_reg ?_))))
    refine wl_mv (.tmp 4) (.int .i64 ((k : Nat) : Int)) (fun _ => rfl) e4 rfl ?_
    refine wl_b .add 3 (.tmp 11) (.const (.int .i64 (1))) (.int .i64 ((k : Nat) : Int)) (.int .i64 (1)) (.int .i64 ((k + 1 : Nat) : Int)) (addk (a := k) (b := 1) rfl (by omega) _ _ _) ?_
    refine wl_m (.tmp 12) (.int .i64 ((k + 1 : Nat) : Int)) ?_
    refine w_nil ?_
    exact xn_loop (s.size - (k + 1)) (by omega) ⟨k + 1, _, rfl, e0, rfl, rfl, by omega, by rw [← qi_step (by omega) hb (qb_1 (Or.inr hf22p))]; exact hown, M⟩
   | false =>
    have hf22p := of_decide_eq_false hf22
    refine w_reg ?_
    refine wl_m (.tmp 5) (.int .u8 (b : Int)) ?_
    refine wl_b .eql 5 (.tmp 21) (.const (.int .u8 (34))) (.int .u8 (b : Int)) (.int .u8 (34)) (.bool false) (eq5d hf21 _ _ _) ?_
    refine wl_m (.tmp 22) (.bool false) ?_
    refine wl_m (.tmp 5) (.int .u8 (b : Int)) ?_
    refine wl_b .eql 5 (.tmp 24) (.const (.int .u8 (92))) (.int .u8 (b : Int)) (.int .u8 (92)) (.bool false) (eq5d hf22 _ _ _) ?_
    refine wl_pick (.tmp 23) (.const (.bool true)) (.tmp 25) false (.bool false) (fun _ => rfl) rfl rfl rfl ?_
    refine wl_m (.tmp 26) (.bool false) ?_
    refine w_nil (xn_then (w_condF rfl (w_seq ?_)))
    cases hf23 : decide (b < 32) with
    | true =>
     have hf23p := of_decide_eq_true hf23
     refine w_reg ?_
     refine wl_m (.tmp 5) (.int .u8 (b : Int)) ?_
     refine wl_b .lss 5 (.tmp 32) (.const (.int .u8 (32))) (.int .u8 (b : Int)) (.int .u8 (32)) (.bool true) (lt5d hf23 _ _ _) ?_
     refine wl_m (.tmp 33) (.bool true) ?_
     refine wl_skip rfl (wl_skip rfl ?_)
     refine wl_pick (.tmp 34) (.const (.bool true)) (.tmp 36) true (.bool true) (fun _ => rfl) rfl rfl rfl ?_
     refine wl_m (.tmp 37) (.bool true) ?_
     refine w_nil (xn_then (w_condT rfl ?_))
     refine w_any 7 [.inl (v), .inl (.int .u8 (b : Int)), .inl (.int .u8 ((b / 16 : Nat) : Int)), .inl (.int .u8 (((hx (b / 16)).toNat : Nat) : Int)), .inl (.int .u8 (b : Int)), .inl (.int .u8 ((b % 16 : Nat) : Int)), .inl (.int .u8 (((hx (b % 16)).toNat : Nat) : Int))] [0] (by kernel_rfl) (by kernel_rfl) (by kernel_rfl) (by kernel_rfl) rfl (by kernel_rfl) (by kernel_rfl) (late_cons ⟨_, _, rfl, rfl, fun _ _ _ _ h => h, fun f hd => ⟨rfl, la_mv (.tmp 3) (v) (fun _ => rfl) e3⟩⟩ late_nil) ?_ ?_ ?_
     ·exact Ds.none rfl
     ·refine ea_cons ?_ (ea_cons ?_ (ea_cons ?_ (ea_cons ?_ (ea_cons ?_ (ea_cons ?_ (ea_cons ?_ (ea_nil)))))))
      ·exact og_eq _ rfl (fun f wf hq hd K hK => go_run rfl (wo_mv (.tmp 3) (v) (fun _ => rfl) e3 (hK _ (Mw.refl _))))
      ·exact og_eq _ rfl (fun f wf hq hd K hK => go_run rfl (wo_mv (.tmp 5) (.int .u8 (b : Int)) (fun _ => rfl) rfl (hK _ (Mw.refl _))))
      ·exact og_eq _ rfl (fun f wf hq hd K hK => go_run rfl (wo_bin (fun x y => do eqGuard .quo 5 (.tmp 39) (.const (.int .u8 (16))) x y; binOp .quo 5 x y) (.tmp 39) (.const (.int .u8 (16))) (.int .u8 (b : Int)) (.int .u8 (16)) (.int .u8 ((b / 16 : Nat) : Int)) (fun _ => rfl) (hd 1 rfl) rfl (quo16 hb2 _ _ _) (hK _ (Mw.refl _))))
      ·exact og_eq _ rfl (fun f wf hq hd K hK => go_run rfl (wo_bin (fun x y => Instr.index 9 x y) (.const (.string ⟨#[48, 49, 50, 51, 52, 53, 54, 55, 56, 57, 97, 98, 99, 100, 101, 102]⟩)) (.tmp 40) (.string ⟨#[48, 49, 50, 51, 52, 53, 54, 55, 56, 57, 97, 98, 99, 100, 101, 102]⟩) (.int .u8 ((b / 16 : Nat) : Int)) (.int .u8 (((hx (b / 16)).toNat : Nat) : Int)) (fun _ => rfl) rfl (hd 2 rfl) (ixh (by omega) _) (hK _ (Mw.refl _))))
      ·exact og_eq _ rfl (fun f wf hq hd K hK => go_run rfl (wo_mv (.tmp 5) (.int .u8 (b : Int)) (fun _ => rfl) rfl (hK _ (Mw.refl _))))
      ·exact og_eq _ rfl (fun f wf hq hd K hK => go_run rfl (wo_bin (fun x y => do eqGuard .rem 5 (.tmp 42) (.const (.int .u8 (16))) x y; binOp .rem 5 x y) (.tmp 42) (.const (.int .u8 (16))) (.int .u8 (b : Int)) (.int .u8 (16)) (.int .u8 ((b % 16 : Nat) : Int)) (fun _ => rfl) (hd 4 rfl) rfl (rem16 hb2 _ _ _) (hK _ (Mw.refl _))))
      ·exact og_eq _ rfl (fun f wf hq hd K hK => go_run rfl (wo_bin (fun x y => Instr.index 9 x y) (.const (.string ⟨#[48, 49, 50, 51, 52, 53, 54, 55, 56, 57, 97, 98, 99, 100, 101, 102]⟩)) (.tmp 43) (.string ⟨#[48, 49, 50, 51, 52, 53, 54, 55, 56, 57, 97, 98, 99, 100, 101, 102]⟩) (.int .u8 ((b % 16 : Nat) : Int)) (.int .u8 (((hx (b % 16)).toNat : Nat) : Int)) (fun _ => rfl) rfl (hd 5 rfl) (ixh (by omega) _) (hK _ (Mw.refl _))))
     intro kf11 w11 hq hR hne
     replace hown := OB.mw hown hq
     replace M := M.trans hq
     clear hq hR hne
     refine wl_put4 _ (.const (.int .u8 (92))) (.const (.int .u8 (120))) (.tmp 41) (.tmp 44) (.tmp 38) 45 ((92)) ((120)) ((((hx (b / 16)).toNat : Nat) : Int)) ((((hx (b % 16)).toNat : Nat) : Int)) w.heap.size v (34 :: qi ((by8 s).take k)) rfl rfl rfl rfl rfl rfl rfl rfl rfl rfl rfl hown (by omega) (by omega) (by have := UInt8.toNat_lt (hx (b / 16)); omega) (by have := UInt8.toNat_lt (hx (b % 16)); omega) (by have hql := qi_len ((by8 s).take k); simp only [List.length_cons, List.length_take, by8_len] at hql ⊢; omega) M.size ?_
     intro vo12 w12 hOn hMn hAn
     replace M := hMn w rfl M
     replace hown := hOn
     clear hOn hMn hAn
     refine wl_m (.tmp 46) (vo12) ?_
     refine w_nil (xn_blk (xn_blk (xn_then (w_reg ?_))))
     refine wl_mv (.tmp 4) (.int .i64 ((k : Nat) : Int)) (fun _ => rfl) e4 rfl ?_
     refine wl_b .add 3 (.tmp 11) (.const (.int .i64 (1))) (.int .i64 ((k : Nat) : Int)) (.int .i64 (1)) (.int .i64 ((k + 1 : Nat) : Int)) (addk (a := k) (b := 1) rfl (by omega) _ _ _) ?_
     refine wl_m (.tmp 12) (.int .i64 ((k + 1 : Nat) : Int)) ?_
     refine w_nil ?_
     have hqq := qb_2 hb2 (Or.inl hf23p)
     rw [← u8_id (hx (b / 16)), ← u8_id (hx (b % 16))] at hqq
     exact xn_loop (s.size - (k + 1)) (by omega) ⟨k + 1, _, rfl, e0, rfl, rfl, by omega, by rw [← qi_step (by omega) hb (hqq)]; exact hown, M⟩
    | false =>
     have hf23p := of_decide_eq_false hf23
     cases hf24 : decide (126 < b) with
     | true =>
      have hf24p := of_decide_eq_true hf24
      refine w_reg ?_
      refine wl_m (.tmp 5) (.int .u8 (b : Int)) ?_
      refine wl_b .lss 5 (.tmp 32) (.const (.int .u8 (32))) (.int .u8 (b : Int)) (.int .u8 (32)) (.bool false) (lt5d hf23 _ _ _) ?_
      refine wl_m (.tmp 33) (.bool false) ?_
      refine wl_m (.tmp 5) (.int .u8 (b : Int)) ?_
      refine wl_b .gtr 5 (.tmp 35) (.const (.int .u8 (126))) (.int .u8 (b : Int)) (.int .u8 (126)) (.bool true) (gt5d hf24 _ _ _) ?_
      refine wl_pick (.tmp 34) (.const (.bool true)) (.tmp 36) false (.bool true) (fun _ => rfl) rfl rfl rfl ?_
      refine wl_m (.tmp 37) (.bool true) ?_
      refine w_nil (xn_then (w_condT rfl ?_))
      refine w_any 7 [.inl (v), .inl (.int .u8 (b : Int)), .inl (.int .u8 ((b / 16 : Nat) : Int)), .inl (.int .u8 (((hx (b / 16)).toNat : Nat) : Int)), .inl (.int .u8 (b : Int)), .inl (.int .u8 ((b % 16 : Nat) : Int)), .inl (.int .u8 (((hx (b % 16)).toNat : Nat) : Int))] [0] (by kernel_rfl) (by kernel_rfl) (by kernel_rfl) (by kernel_rfl) rfl (by kernel_rfl) (by kernel_rfl) (late_cons ⟨_, _, rfl, rfl, fun _ _ _ _ h => h, fun f hd => ⟨rfl, la_mv (.tmp 3) (v) (fun _ => rfl) e3⟩⟩ late_nil) ?_ ?_ ?_
      ·exact Ds.none rfl
      ·refine ea_cons ?_ (ea_cons ?_ (ea_cons ?_ (ea_cons ?_ (ea_cons ?_ (ea_cons ?_ (ea_cons ?_ (ea_nil)))))))
       ·exact og_eq _ rfl (fun f wf hq hd K hK => go_run rfl (wo_mv (.tmp 3) (v) (fun _ => rfl) e3 (hK _ (Mw.refl _))))
       ·exact og_eq _ rfl (fun f wf hq hd K hK => go_run rfl (wo_mv (.tmp 5) (.int .u8 (b : Int)) (fun _ => rfl) rfl (hK _ (Mw.refl _))))
       ·exact og_eq _ rfl (fun f wf hq hd K hK => go_run rfl (wo_bin (fun x y => do eqGuard .quo 5 (.tmp 39) (.const (.int .u8 (16))) x y; binOp .quo 5 x y) (.tmp 39) (.const (.int .u8 (16))) (.int .u8 (b : Int)) (.int .u8 (16)) (.int .u8 ((b / 16 : Nat) : Int)) (fun _ => rfl) (hd 1 rfl) rfl (quo16 hb2 _ _ _) (hK _ (Mw.refl _))))
       ·exact og_eq _ rfl (fun f wf hq hd K hK => go_run rfl (wo_bin (fun x y => Instr.index 9 x y) (.const (.string ⟨#[48, 49, 50, 51, 52, 53, 54, 55, 56, 57, 97, 98, 99, 100, 101, 102]⟩)) (.tmp 40) (.string ⟨#[48, 49, 50, 51, 52, 53, 54, 55, 56, 57, 97, 98, 99, 100, 101, 102]⟩) (.int .u8 ((b / 16 : Nat) : Int)) (.int .u8 (((hx (b / 16)).toNat : Nat) : Int)) (fun _ => rfl) rfl (hd 2 rfl) (ixh (by omega) _) (hK _ (Mw.refl _))))
       ·exact og_eq _ rfl (fun f wf hq hd K hK => go_run rfl (wo_mv (.tmp 5) (.int .u8 (b : Int)) (fun _ => rfl) rfl (hK _ (Mw.refl _))))
       ·exact og_eq _ rfl (fun f wf hq hd K hK => go_run rfl (wo_bin (fun x y => do eqGuard .rem 5 (.tmp 42) (.const (.int .u8 (16))) x y; binOp .rem 5 x y) (.tmp 42) (.const (.int .u8 (16))) (.int .u8 (b : Int)) (.int .u8 (16)) (.int .u8 ((b % 16 : Nat) : Int)) (fun _ => rfl) (hd 4 rfl) rfl (rem16 hb2 _ _ _) (hK _ (Mw.refl _))))
       ·exact og_eq _ rfl (fun f wf hq hd K hK => go_run rfl (wo_bin (fun x y => Instr.index 9 x y) (.const (.string ⟨#[48, 49, 50, 51, 52, 53, 54, 55, 56, 57, 97, 98, 99, 100, 101, 102]⟩)) (.tmp 43) (.string ⟨#[48, 49, 50, 51, 52, 53, 54, 55, 56, 57, 97, 98, 99, 100, 101, 102]⟩) (.int .u8 ((b % 16 : Nat) : Int)) (.int .u8 (((hx (b % 16)).toNat : Nat) : Int)) (fun _ => rfl) rfl (hd 5 rfl) (ixh (by omega) _) (hK _ (Mw.refl _))))
      intro kf11 w11 hq hR hne
      replace hown := OB.mw hown hq
      replace M := M.trans hq
      clear hq hR hne
      refine wl_put4 _ (.const (.int .u8 (92))) (.const (.int .u8 (120))) (.tmp 41) (.tmp 44) (.tmp 38) 45 ((92)) ((120)) ((((hx (b / 16)).toNat : Nat) : Int)) ((((hx (b % 16)).toNat : Nat) : Int)) w.heap.size v (34 :: qi ((by8 s).take k)) rfl rfl rfl rfl rfl rfl rfl rfl rfl rfl rfl hown (by omega) (by omega) (by have := UInt8.toNat_lt (hx (b / 16)); omega) (by have := UInt8.toNat_lt (hx (b % 16)); omega) (by have hql := qi_len ((by8 s).take k); simp only [List.length_cons, List.length_take, by8_len] at hql ⊢; omega) M.size ?_
      intro vo12 w12 hOn hMn hAn
      replace M := hMn w rfl M
      replace hown := hOn
      clear hOn hMn hAn
      refine wl_m (.tmp 46) (vo12) ?_
      refine w_nil (xn_blk (xn_blk (xn_then (w_reg ?_))))
      refine wl_mv (.tmp 4) (.int .i64 ((k : Nat) : Int)) (fun _ => rfl) e4 rfl ?_
      refine wl_b .add 3 (.tmp 11) (.const (.int .i64 (1))) (.int .i64 ((k : Nat) : Int)) (.int .i64 (1)) (.int .i64 ((k + 1 : Nat) : Int)) (addk (a := k) (b := 1) rfl (by omega) _ _ _) ?_
      refine wl_m (.tmp 12) (.int .i64 ((k + 1 : Nat) : Int)) ?_
      refine w_nil ?_
      have hqq := qb_2 hb2 (Or.inr hf24p)
      rw [← u8_id (hx (b / 16)), ← u8_id (hx (b % 16))] at hqq
      exact xn_loop (s.size - (k + 1)) (by omega) ⟨k + 1, _, rfl, e0, rfl, rfl, by omega, by rw [← qi_step (by omega) hb (hqq)]; exact hown, M⟩
     | false =>
      have hf24p := of_decide_eq_false hf24
      refine w_reg ?_
      refine wl_m (.tmp 5) (.int .u8 (b : Int)) ?_
      refine wl_b .lss 5 (.tmp 32) (.const (.int .u8 (32))) (.int .u8 (b : Int)) (.int .u8 (32)) (.bool false) (lt5d hf23 _ _ _) ?_
      refine wl_m (.tmp 33) (.bool false) ?_
      refine wl_m (.tmp 5) (.int .u8 (b : Int)) ?_
      refine wl_b .gtr 5 (.tmp 35) (.const (.int .u8 (126))) (.int .u8 (b : Int)) (.int .u8 (126)) (.bool false) (gt5d hf24 _ _ _) ?_
      refine wl_pick (.tmp 34) (.const (.bool true)) (.tmp 36) false (.bool false) (fun _ => rfl) rfl rfl rfl ?_
      refine wl_m (.tmp 37) (.bool false) ?_
      refine w_nil (xn_then (w_condF rfl (w_reg ?_)))
      refine wl_mv (.tmp 3) (v) (fun _ => rfl) e3 rfl ?_
      refine wl_m (.tmp 5) (.int .u8 (b : Int)) ?_
      refine wl_put1 _ (.tmp 17) (.tmp 16) 18 ((b : Int)) w.heap.size v (34 :: qi ((by8 s).take k)) rfl rfl rfl rfl rfl rfl rfl rfl hown (by omega) (by have hql := qi_len ((by8 s).take k); simp only [List.length_cons, List.length_take, by8_len] at hql ⊢; omega) M.size ?_
      intro vo11 w11 hOn hMn hAn
      replace M := hMn w rfl M
      replace hown := hOn
      clear hOn hMn hAn
      refine wl_m (.tmp 19) (vo11) ?_
      refine w_nil (xn_blk (xn_blk (xn_then (w_reg ?_))))
      refine wl_mv (.tmp 4) (.int .i64 ((k : Nat) : Int)) (fun _ => rfl) e4 rfl ?_
      refine wl_b .add 3 (.tmp 11) (.const (.int .i64 (1))) (.int .i64 ((k : Nat) : Int)) (.int .i64 (1)) (.int .i64 ((k + 1 : Nat) : Int)) (addk (a := k) (b := 1) rfl (by omega) _ _ _) ?_
      refine wl_m (.tmp 12) (.int .i64 ((k + 1 : Nat) : Int)) ?_
      refine w_nil ?_
      exact xn_loop (s.size - (k + 1)) (by omega) ⟨k + 1, _, rfl, e0, rfl, rfl, by omega, by rw [← qi_step (by omega) hb (qb_3 hb2 hf21p hf22p hf23p hf24p)]; exact hown, M⟩
 | false =>
  have hf20p := of_decide_eq_false hf20
  refine w_reg ?_
  refine wl_mv (.tmp 4) (.int .i64 ((k : Nat) : Int)) (fun _ => rfl) e4 rfl ?_
  refine wl_mv (.tmp 0) (.string s) (fun _ => rfl) e0 rfl ?_
  refine wl_val (.int .i64 ((s.size : Nat) : Int)) (len_s _ _ s (by exact rfl) _ _ _ _ _ _) rfl ?_
  refine wl_b .lss 3 (.tmp 7) (.tmp 9) (.int .i64 ((k : Nat) : Int)) (.int .i64 ((s.size : Nat) : Int)) (.bool false) (ltN hf20 _ _ _) ?_
  refine w_nil (xn_then (w_condF rfl (w_exit (xx_then (xx_then (xx_blk (xn_then (w_seq (w_reg ?_)))))))))
  refine wl_mv (.tmp 3) (v) (fun _ => rfl) e3 rfl ?_
  refine wl_put1 _ (.const (.int .u8 (34))) (.tmp 47) 48 ((34)) w.heap.size v (34 :: qi ((by8 s).take k)) rfl rfl rfl rfl rfl rfl rfl rfl hown (by omega) (by have hql := qi_len ((by8 s).take k); simp only [List.length_cons, List.length_take, by8_len] at hql ⊢; omega) M.size ?_
  intro vo11 w11 hOn hMn hAn
  replace M := hMn w rfl M
  replace hown := hOn
  clear hOn hMn hAn
  refine wl_un (fun v => convert 81 9 v) (.tmp 49) (vo11) (.string ⟨(34 :: qi ((by8 s).take k) ++ [((34) : Int).toNat.toUInt8]).toArray⟩) (fun _ => rfl) rfl (str_own hown) rfl ?_
  refine wl_m (.tmp 50) (.string ⟨(34 :: qi ((by8 s).take k) ++ [((34) : Int).toNat.toUInt8]).toArray⟩) ?_
  refine w_nil (xn_then (w_ret ?_))
  exact w_ret1 _ (.string ⟨(34 :: qi ((by8 s).take k) ++ [((34) : Int).toNat.toUInt8]).toArray⟩) rfl rfl ⟨by rw [show k = s.size by omega, List.take_of_length_le (by rw [by8_len]; omega)]; rfl, M⟩
end Go.Proofs.YtogomodbcjpfiaaGreatDoor.V

namespace Go.Proofs.YtogomodbcjpfiaaGreatDoor
theorem decF_ne {f : Nat} (n : Int) : decF (f + 1) n ≠ [] := by
 unfold decF
 split <;> simp
end Go.Proofs.YtogomodbcjpfiaaGreatDoor

namespace Go.Proofs.YtogomodbcjpfiaaGreatDoor
open Go.RowKit
theorem rflag_n (f : Bool) (w : World) : Calls Tryz.prog 37 #[.bool f] w fun e9 w' => e9 = .returned (vFl f).v ∧ Mo w w' := by
 refine w_enter 5 Tryz.func37 Tryz.ntmps37 rfl rfl ?_
 have M : Mo w w := Mo.refl _
 refine w_seq (w_reg ?_)
 refine wl_alloc 28 #[.int .i64 0, .bool false, .int .u64 0, .int .u64 0, .int .u64 0, .int .u64 0, .int .i64 0, .bool false, .string ⟨#[]⟩, .int .i64 0] rfl (fun _ => by kernel_rfl) rfl ?_
 intro k1 u1 hk hz hq Q1
 have N_k1 : w.heap.size ≤ k1 := by have := M.size; omega
 replace M := M.trans hq
 clear hk hz hq
 refine w_nil (xn_then (w_seq (w_reg ?_)))
 refine wl_m (.tmp 0) (.bool f) ?_
 refine wl_build 28 [(0, (.const (.int .i64 (2)))), (2, (.tmp 3))] [(0, .int .i64 (2)), (2, .bool f)] (.agg #[.int .i64 (2), .bool false, .int .u64 0, .int .u64 0, .int .u64 0, .int .u64 0, .int .i64 0, .bool f, .string ⟨#[]⟩, .int .i64 0]) rfl rfl (by kernel_rfl) rfl ?_
 refine wl_st 28 (.tmp 2) (.tmp 4) k1 0 #[.int .i64 (2), .bool false, .int .u64 0, .int .u64 0, .int .u64 0, .int .u64 0, .int .i64 0, .bool f, .string ⟨#[]⟩, .int .i64 0] _ [.int .i64 (2), .bool false, .int .u64 0, .int .u64 0, .int .u64 0, .int .u64 0, .int .i64 0, .bool f, .string ⟨#[]⟩, .int .i64 0] Q1 rfl rfl rfl rfl rfl sz28 rfl rfl rfl ?_
 intro u2 hS Qn
 replace Q1 := Qn
 clear Qn
 replace M := hS.mo _ N_k1 M
 clear hS
 refine w_nil (xn_then (w_ret ?_))
 exact w_ret1 _ (.agg #[.int .i64 (2), .bool false, .int .u64 0, .int .u64 0, .int .u64 0, .int .u64 0, .int .i64 0, .bool f, .string ⟨#[]⟩, .int .i64 0]) rfl ⟨k1, rfl, (run_row Q1 28 0 10 _ rfl Tryz.underlying28 rfl sz28)⟩ ⟨rfl, M⟩
def oneV (k : Int) (x : VL) : VL := if askK k x = 0 then x else vEr (askK k x)
theorem oneK_n (k : Int) (x : VL) (w : World) (hx : x.ok) : Calls Tryz.prog 47 #[x.v, .int .i64 k] w fun e9 w' => e9 = .returned (oneV k x).v ∧ Mo w w' := by
 refine w_enter 18 Tryz.func47 Tryz.ntmps47 rfl rfl ?_
 have M : Mo w w := Mo.refl _
 refine w_seq (w_reg ?_)
 refine wl_box 28 (.tmp 0) _ (((x.cells).toArray)) rfl rfl (fun _ => by kernel_rfl) rfl ?_
 intro k1 u1 hk hz hq Q1
 have N_k1 : w.heap.size ≤ k1 := by have := M.size; omega
 replace M := M.trans hq
 clear hk hz hq
 refine wl_alloc 28 #[.int .i64 0, .bool false, .int .u64 0, .int .u64 0, .int .u64 0, .int .u64 0, .int .i64 0, .bool false, .string ⟨#[]⟩, .int .i64 0] rfl (fun _ => by kernel_rfl) rfl ?_
 intro k2 u2 hk hz hq Q2
 have ne_k1_k2 : k1 ≠ k2 := by have := Q1.lt; omega
 have N_k2 : w.heap.size ≤ k2 := by have := M.size; omega
 replace Q1 := Q1.mo hq
 replace M := M.trans hq
 clear hk hz hq
 refine w_nil (xn_then (w_seq (w_reg ?_)))
 refine wl_l 28 (.tmp 2) (pt k1 0) (.agg (x.cells).toArray) (run_row Q1 28 0 10 (x.cells) rfl Tryz.underlying28 rfl sz28) ?_
 cases hf0 : decide (ask x = 0) with
 | true =>
  have hf0p := of_decide_eq_true hf0
  refine wl_call 35 [(.tmp 5)] _ [.agg (x.cells).toArray] (.agg (x.cells).toArray) rfl rfl (fun _ _ => by kernel_rfl) (asked_0 hf0p hx _) rfl ?_
  intro u3 hq
  replace Q1 := Q1.mo hq
  replace Q2 := Q2.mo hq
  replace M := M.trans hq
  clear hq
  refine wl_st 28 (.tmp 2) (.tmp 6) k1 0 ((x.cells).toArray) (x.cells) (x.cells) Q1 rfl rfl rfl rfl rfl sz28 rfl rfl rfl ?_
  intro u4 hS Qn
  replace Q1 := Qn
  clear Qn
  replace Q2 := hS.other _ _ ne_k1_k2.symm Q2
  replace M := hS.mo _ N_k1 M
  clear hS
  refine w_nil (xn_then (w_seq (w_seq (w_reg ?_))))
  refine wl_f 28 0 (.tmp 2) (pt k1 0) (pt k1 0) ?_
  refine wl_l 3 (.tmp 7) (pt k1 0) (.int .i64 (x.k)) (run_one Q1 3 0 rfl Tryz.underlying3 rfl) ?_
  refine wl_b .neq 3 (.tmp 8) (.const (.int .i64 (4))) (.int .i64 (x.k)) (.int .i64 (4)) (.bool true) (ne3 (decide_eq_false (ask_0 hx hf0p).2.1) _ _ _) ?_
  refine wl_m (.tmp 9) (.bool true) ?_
  refine wl_f 28 0 (.tmp 2) (pt k1 0) (pt k1 0) ?_
  refine wl_l 3 (.tmp 11) (pt k1 0) (.int .i64 (x.k)) (run_one Q1 3 0 rfl Tryz.underlying3 rfl) ?_
  refine wl_m (.tmp 1) (.int .i64 (k)) ?_
  cases hf1 : decide (x.k = k) with
  | true =>
   have hf1p := of_decide_eq_true hf1
   refine wl_b .neq 3 (.tmp 12) (.tmp 13) (.int .i64 (x.k)) (.int .i64 (k)) (.bool false) (ne3 hf1 _ _ _) ?_
   refine wl_pick (.tmp 10) (.tmp 14) (.const (.bool false)) true (.bool false) (fun _ => rfl) rfl rfl rfl ?_
   refine w_nil (xn_then (w_condF rfl (w_skip (xn_then (w_seq (w_reg ?_))))))
   refine wl_l 28 (.tmp 2) (pt k1 0) (.agg (x.cells).toArray) (run_row Q1 28 0 10 (x.cells) rfl Tryz.underlying28 rfl sz28) ?_
   refine wl_st 28 (.tmp 4) (.tmp 17) k2 0 ((x.cells).toArray) _ (x.cells) Q2 rfl rfl rfl rfl rfl sz28 rfl rfl rfl ?_
   intro u5 hS Qn
   replace Q2 := Qn
   clear Qn
   replace Q1 := hS.other _ _ ne_k1_k2 Q1
   replace M := hS.mo _ N_k2 M
   clear hS
   refine w_nil (xn_then (w_ret ?_))
   exact w_ret1 _ (.agg (x.cells).toArray) rfl ⟨k2, rfl, (run_row Q2 28 0 10 (x.cells) rfl Tryz.underlying28 rfl sz28)⟩ ⟨vrt (x := x) rfl (by simp [oneV, askK, hf0p, hf1p]), M⟩
  | false =>
   have hf1p := of_decide_eq_false hf1
   refine wl_b .neq 3 (.tmp 12) (.tmp 13) (.int .i64 (x.k)) (.int .i64 (k)) (.bool true) (ne3 hf1 _ _ _) ?_
   refine wl_pick (.tmp 10) (.tmp 14) (.const (.bool false)) true (.bool true) (fun _ => rfl) rfl rfl rfl ?_
   refine w_nil (xn_then (w_condT rfl (w_seq (w_reg ?_))))
   refine wl_call 16 [(.const (.int .i64 (2)))] _ [.int .i64 (2)] (.agg ((vBad (2)).cells).toArray) rfl rfl (fun _ _ => by kernel_rfl) (rbad_n (2) _) rfl ?_
   intro u5 hq
   replace Q1 := Q1.mo hq
   replace Q2 := Q2.mo hq
   replace M := M.trans hq
   clear hq
   refine wl_st 28 (.tmp 4) (.tmp 16) k2 0 (((vBad (2)).cells).toArray) _ ((vBad (2)).cells) Q2 rfl rfl rfl rfl rfl sz28 rfl rfl rfl ?_
   intro u6 hS Qn
   replace Q2 := Qn
   clear Qn
   replace Q1 := hS.other _ _ ne_k1_k2 Q1
   replace M := hS.mo _ N_k2 M
   clear hS
   refine w_nil (xn_then (w_ret (xr_then ?_)))
   exact w_ret1 _ (.agg ((vBad (2)).cells).toArray) rfl ⟨k2, rfl, (run_row Q2 28 0 10 ((vBad (2)).cells) rfl Tryz.underlying28 rfl sz28)⟩ ⟨vrt (x := (vBad (2))) rfl (by simp [oneV, askK, vBad, isE, hf0p, hf1p]), M⟩
 | false =>
  have hf0p := of_decide_eq_false hf0
  refine wl_call 35 [(.tmp 5)] _ [.agg (x.cells).toArray] (.agg ((vEr (ask x)).cells).toArray) rfl rfl (fun _ _ => by kernel_rfl) (asked_1 hf0p hx _) rfl ?_
  intro u3 hq
  replace Q1 := Q1.mo hq
  replace Q2 := Q2.mo hq
  replace M := M.trans hq
  clear hq
  refine wl_st 28 (.tmp 2) (.tmp 6) k1 0 (((vEr (ask x)).cells).toArray) (x.cells) ((vEr (ask x)).cells) Q1 rfl rfl rfl rfl rfl sz28 rfl rfl rfl ?_
  intro u4 hS Qn
  replace Q1 := Qn
  clear Qn
  replace Q2 := hS.other _ _ ne_k1_k2.symm Q2
  replace M := hS.mo _ N_k1 M
  clear hS
  refine w_nil (xn_then (w_seq (w_seq (w_reg ?_))))
  refine wl_f 28 0 (.tmp 2) (pt k1 0) (pt k1 0) ?_
  refine wl_l 3 (.tmp 7) (pt k1 0) (.int .i64 ((vEr (ask x)).k)) (run_one Q1 3 0 rfl Tryz.underlying3 rfl) ?_
  refine wl_b .neq 3 (.tmp 8) (.const (.int .i64 (4))) (.int .i64 ((vEr (ask x)).k)) (.int .i64 (4)) (.bool false) (ne3 rfl _ _ _) ?_
  refine wl_m (.tmp 9) (.bool false) ?_
  refine wl_skip rfl (wl_skip rfl (wl_skip rfl (wl_skip rfl ?_)))
  refine wl_pick (.tmp 10) (.tmp 14) (.const (.bool false)) false (.bool false) (fun _ => rfl) rfl rfl rfl ?_
  refine w_nil (xn_then (w_condF rfl (w_skip (xn_then (w_seq (w_reg ?_))))))
  refine wl_l 28 (.tmp 2) (pt k1 0) (.agg ((vEr (ask x)).cells).toArray) (run_row Q1 28 0 10 ((vEr (ask x)).cells) rfl Tryz.underlying28 rfl sz28) ?_
  refine wl_st 28 (.tmp 4) (.tmp 17) k2 0 (((vEr (ask x)).cells).toArray) _ ((vEr (ask x)).cells) Q2 rfl rfl rfl rfl rfl sz28 rfl rfl rfl ?_
  intro u5 hS Qn
  replace Q2 := Qn
  clear Qn
  replace Q1 := hS.other _ _ ne_k1_k2 Q1
  replace M := hS.mo _ N_k2 M
  clear hS
  refine w_nil (xn_then (w_ret ?_))
  exact w_ret1 _ (.agg ((vEr (ask x)).cells).toArray) rfl ⟨k2, rfl, (run_row Q2 28 0 10 ((vEr (ask x)).cells) rfl Tryz.underlying28 rfl sz28)⟩ ⟨vrt (x := (vEr (ask x))) rfl (by simp [oneV, askK, hf0p]), M⟩
theorem one_0 {k : Int} {x : VL} (h : askK k x = 0) (hx : x.ok) (w : World) : Calls Tryz.prog 47 #[x.v, .int .i64 k] w fun e9 w' => e9 = .returned x.v ∧ Mo w w' := by
 have q := oneK_n k x w hx
 unfold oneV at q
 rw [if_pos h] at q
 exact q
theorem one_1 {k : Int} {x : VL} (h : ¬ askK k x = 0) (hx : x.ok) (w : World) : Calls Tryz.prog 47 #[x.v, .int .i64 k] w fun e9 w' => e9 = .returned (vEr (askK k x)).v ∧ Mo w w' := by
 have q := oneK_n k x w hx
 unfold oneV at q
 rw [if_neg h] at q
 exact q
end Go.Proofs.YtogomodbcjpfiaaGreatDoor

/-
  A part of the proof.
-/
import Derived.Test.YtogomodbcjpfiaaGreatDoorKa4
import Derived.Test.YtogomodbcjpfiaaGreatDoorKa3
import Derived.Test.YtogomodbcjpfiaaGreatDoorKa2
import Derived.Test.YtogomodbcjpfiaaGreatDoorKa1
import Derived.RegionTactic
import Derived.Test.YtogomodbcjpfiaaGreatDoorProg
import Derived.WalkKit
import Derived.WalkSpells
import Derived.Handy
import Derived.BigQuiet
import Derived.Deep.RegionHeld3
import Derived.Deep.MidRow
import Derived.BigCall
import Derived.Test.YtogomodbcjpfiaaGreatDoorKa12
import Derived.Test.YtogomodbcjpfiaaGreatDoorKa9
import Derived.Test.YtogomodbcjpfiaaGreatDoorKa8
import Derived.Test.YtogomodbcjpfiaaGreatDoorKa5
import Derived.Shelf.Small.Bits
import Derived.Shelf.Strconv.Itoa0
import Derived.Shelf.Bits.Mul64
import Derived.Deep.CutBlock
import Derived.Deep.CutRange
import Derived.Test.YtogomodbcjpfiaaGreatDoorKa7
import Derived.Test.YtogomodbcjpfiaaGreatDoorKa6
import Derived.ChangeKeysEq
import Derived.ScopeJumps
import Derived.WalkMore
import Derived.Laws.StructEq
import Derived.Test.YtogomodbcjpfiaaGreatDoorKa13
import Derived.Test.YtogomodbcjpfiaaGreatDoorKa14
import Derived.Test.YtogomodbcjpfiaaGreatDoorKa11
import Derived.Test.YtogomodbcjpfiaaGreatDoorKa10
import Derived.Test.YtogomodbcjpfiaaGreatDoorKa17
import Derived.Test.YtogomodbcjpfiaaGreatDoorKa16
import Derived.Test.YtogomodbcjpfiaaGreatDoorKa15
import Derived.Shelf.Strings.Builder1
import Derived.Shelf.Strings.Builder2
import Derived.Shelf.Small.Wraps
import Derived.Shelf.Strings.BuilderF
import Derived.Shelf.Strings.BuilderK
import Derived.Shelf.Strings.Prefix
import Derived.Shelf.Strings.Repeat
import Derived.Lib.CutLaws
import Derived.Lib.IndexBytes
import Derived.Maps.OwnSet
import Derived.WalkArith
import Derived.StringKeys
import Derived.Test.YtogomodbcjpfiaaGreatDoorKa18
import Derived.Test.YtogomodbcjpfiaaGreatDoorKa19
import Derived.Test.YtogomodbcjpfiaaGreatDoorKa21
import Derived.Test.YtogomodbcjpfiaaGreatDoorRows
import Derived.Test.YtogomodbcjpfiaaGreatDoorKa20
import Derived.Maps.AppendAt
import Derived.Deep.AppendLies
import Derived.Laws.BytesString
import Derived.Carry
import Derived.ChangeMaps5
import Derived.ChangeSame
import Derived.ChangeVars
import Derived.JoinedOf
import Derived.RowKitTokens
import Derived.LaidLaws
import Derived.LaidHandle
import Derived.Stop.Joined
import Derived.Lib.LaidIn
import Derived.WideKeyArgs
import Derived.Deep.Strs
namespace Go.Proofs.YtogomodbcjpfiaaGreatDoor
open Go.RowKit
section
variable {P : Program} {o : Oper} {n : Nat} {l : List (Nat × Value)} {w : World} {ops : Array Oper} {rest : List Oper} {Q : Exit → Act → World → Prop} {K : Act → World → Prop}
theorem wo_val (v : Value) (h : (execOp (evl n l) o).run P w = .ok (.value v) w) (hk : K (fr n (ext l o.dst v)) w) : WO P o n l w K Q := ⟨o_val v h hk⟩
theorem wo_build (t : TypeId) (xs : List (Nat × Operand)) (ps : List (Nat × Value)) (v : Value) (ho : o.op = .build t xs.toArray) (hx : xs.map (fun p => (p.1, evl n l p.2)) = ps) (h : (Instr.build t ps.toArray).run P w = .ok v w) (hk : K (fr n (ext l o.dst v)) w) : WO P o n l w K Q := ⟨o_build t xs ps v ho hx h hk⟩
end
end Go.Proofs.YtogomodbcjpfiaaGreatDoor

namespace Go.Proofs.YtogomodbcjpfiaaGreatDoor
open Go.RowKit
theorem cr_no (s p : Int) (w : World) (h : sc s = false) : Calls Tryz.prog 90 #[.int .i64 s, .int .i64 p] w fun e w' => e = .returned (.int .i64 21) ∧ Mo w w' := by
 go_enter Tryz.func90, Tryz.ntmps90
 go_wp2_with fail
 refine (isScale_n s _).mono ?_
 rintro e w1 ⟨rfl, hm1⟩
 go_wp2
 go_ret
 exact ⟨rfl, hm1⟩
set_option maxHeartbeats 4000000 in
theorem cr_pol (s p : Int) (w : World) (h : sc s = true) (hp : p < 1 ∨ 5 < p) : Calls Tryz.prog 90 #[.int .i64 s, .int .i64 p] w fun e w' => e = .returned (.int .i64 22) ∧ Mo w w' := by
 have h1 : (p == 1) = false := by simp; omega
 have h2 : (p == 2) = false := by simp; omega
 have h3 : (p == 3) = false := by simp; omega
 have h4 : (p == 4) = false := by simp; omega
 have h5 : (p == 5) = false := by simp; omega
 clear hp
 go_enter Tryz.func90, Tryz.ntmps90
 go_wp2_with fail
 refine (isScale_n s _).mono ?_
 rintro e w1 ⟨rfl, hm1⟩
 go_wp2
 go_ret
 exact ⟨rfl, hm1⟩
end Go.Proofs.YtogomodbcjpfiaaGreatDoor

namespace Go.Proofs.YtogomodbcjpfiaaGreatDoor
open Go.RowKit
set_option maxHeartbeats 4000000 in
theorem mulTo_e2 (b c : Bool) (n m s t S p : Int) (w : World) (hn0 : 0 ≤ n) (hn : n < MM) (hm0 : 0 ≤ m) (hm : m < MM) (h1 : ck b n s = 0) (h2 : ck c m t = 0) (hS : sc S = false) :
  Calls Tryz.prog 61 #[dc b n s, dc c m t, .int .i64 S, .int .i64 p] w fun e w' => e = .returned (er 21) ∧ Mo w w' := by
 go_enter Tryz.func61, Tryz.ntmps61
 go_wp2_with fail
 refine (both_ok b n s c m t _ hn0 hn hm0 hm h1 h2).mono ?_
 rintro e w1 ⟨rfl, hm1⟩
 have mz : Mo w w1 := Mo.trans (by repeat (first | with_reducible exact Mo.refl _ | with_reducible apply Mo.drew | with_reducible apply Mo.alloc)) hm1
 have M := mz
 have Qa : AtD w1 (w.heap.size) b n s := AtD.mo ⟨by simp [go_sem], fun o => by simp [go_sem], by simp <;> omega⟩ hm1
 have Qb : AtD w1 (w.heap.size + 1) c m t := AtD.mo ⟨by simp [go_sem], fun o => by simp [go_sem], by simp <;> omega⟩ hm1
 have Qr : AtD w1 (w.heap.size + 1 + 1) false 0 0 := AtD.mo ⟨by simp [go_sem, zl0, zl1, zl2, zl3], fun o => by simp [go_sem], by simp <;> omega⟩ hm1
 clear hm1 mz
 have Oa := Qa
 obtain ⟨⟨ca0, ca1, ca2, ca3, ca4, ca5⟩, fa, sa⟩ := Oa
 have fa := fun o => fa o
 have sxa : w.heap.size < w1.heap.size + 1 := by omega
 have sya : w.heap.size < w1.heap.size + 1 + 1 := by omega
 have Ob := Qb
 obtain ⟨⟨cb0, cb1, cb2, cb3, cb4, cb5⟩, fb, sb⟩ := Ob
 have fb := fun o => fb o
 have sxb : w.heap.size + 1 < w1.heap.size + 1 := by omega
 have syb : w.heap.size + 1 < w1.heap.size + 1 + 1 := by omega
 have Or := Qr
 obtain ⟨⟨cr0, cr1, cr2, cr3, cr4, cr5⟩, fr, sr⟩ := Or
 have fr := fun o => fr o
 have sxr : w.heap.size + 1 + 1 < w1.heap.size + 1 := by omega
 have syr : w.heap.size + 1 + 1 < w1.heap.size + 1 + 1 := by omega
 go_wp2_with fail
 refine (cr_no S p _ hS).mono ?_
 rintro e w2 ⟨rfl, hm2⟩
 have mz : Mo w1 w2 := Mo.trans (by repeat (first | with_reducible exact Mo.refl _ | with_reducible apply Mo.drew | with_reducible apply Mo.alloc)) hm2
 have zw1a := sa
 have zw1b := sb
 have zw1r := sr
 clear ca0 ca1 ca2 ca3 ca4 ca5 fa sa sxa sya cb0 cb1 cb2 cb3 cb4 cb5 fb sb sxb syb cr0 cr1 cr2 cr3 cr4 cr5 fr sr sxr syr
 have Qa := Qa.mo mz
 have Qb := Qb.mo mz
 have Qr := Qr.mo mz
 have M := M.trans mz
 clear hm2 mz
 have Oa := Qa
 obtain ⟨⟨ca0, ca1, ca2, ca3, ca4, ca5⟩, fa, sa⟩ := Oa
 have fa := fun o => fa o
 have sxa : w.heap.size < w2.heap.size + 1 := by omega
 have sya : w.heap.size < w2.heap.size + 1 + 1 := by omega
 have Ob := Qb
 obtain ⟨⟨cb0, cb1, cb2, cb3, cb4, cb5⟩, fb, sb⟩ := Ob
 have fb := fun o => fb o
 have sxb : w.heap.size + 1 < w2.heap.size + 1 := by omega
 have syb : w.heap.size + 1 < w2.heap.size + 1 + 1 := by omega
 have Or := Qr
 obtain ⟨⟨cr0, cr1, cr2, cr3, cr4, cr5⟩, fr, sr⟩ := Or
 have fr := fun o => fr o
 have sxr : w.heap.size + 1 + 1 < w2.heap.size + 1 := by omega
 have syr : w.heap.size + 1 + 1 < w2.heap.size + 1 + 1 := by omega
 go_wp2
 refine bodyPost_ret (v := er 21) (by simp [results, Tryz.results61, go_sem, *]) rfl ?_
 refine ⟨rfl, ?_⟩
 repeat (first | with_reducible exact M | with_reducible exact Mo.refl _ | with_reducible apply Mo.drew | with_reducible apply Mo.drewN | with_reducible apply Mo.alloc | with_reducible refine Mo.setCell ?_ (by simp <;> omega) _)
set_option maxHeartbeats 4000000 in
theorem mulTo_e3 (b c : Bool) (n m s t S p : Int) (w : World) (hn0 : 0 ≤ n) (hn : n < MM) (hm0 : 0 ≤ m) (hm : m < MM) (h1 : ck b n s = 0) (h2 : ck c m t = 0) (hS : sc S = true) (hp : p < 1 ∨ 5 < p) :
  Calls Tryz.prog 61 #[dc b n s, dc c m t, .int .i64 S, .int .i64 p] w fun e w' => e = .returned (er 22) ∧ Mo w w' := by
 go_enter Tryz.func61, Tryz.ntmps61
 go_wp2_with fail
 refine (both_ok b n s c m t _ hn0 hn hm0 hm h1 h2).mono ?_
 rintro e w1 ⟨rfl, hm1⟩
 have mz : Mo w w1 := Mo.trans (by repeat (first | with_reducible exact Mo.refl _ | with_reducible apply Mo.drew | with_reducible apply Mo.alloc)) hm1
 have M := mz
 have Qa : AtD w1 (w.heap.size) b n s := AtD.mo ⟨by simp [go_sem], fun o => by simp [go_sem], by simp <;> omega⟩ hm1
 have Qb : AtD w1 (w.heap.size + 1) c m t := AtD.mo ⟨by simp [go_sem], fun o => by simp [go_sem], by simp <;> omega⟩ hm1
 have Qr : AtD w1 (w.heap.size + 1 + 1) false 0 0 := AtD.mo ⟨by simp [go_sem, zl0, zl1, zl2, zl3], fun o => by simp [go_sem], by simp <;> omega⟩ hm1
 clear hm1 mz
 have Oa := Qa
 obtain ⟨⟨ca0, ca1, ca2, ca3, ca4, ca5⟩, fa, sa⟩ := Oa
 have fa := fun o => fa o
 have sxa : w.heap.size < w1.heap.size + 1 := by omega
 have sya : w.heap.size < w1.heap.size + 1 + 1 := by omega
 have Ob := Qb
 obtain ⟨⟨cb0, cb1, cb2, cb3, cb4, cb5⟩, fb, sb⟩ := Ob
 have fb := fun o => fb o
 have sxb : w.heap.size + 1 < w1.heap.size + 1 := by omega
 have syb : w.heap.size + 1 < w1.heap.size + 1 + 1 := by omega
 have Or := Qr
 obtain ⟨⟨cr0, cr1, cr2, cr3, cr4, cr5⟩, fr, sr⟩ := Or
 have fr := fun o => fr o
 have sxr : w.heap.size + 1 + 1 < w1.heap.size + 1 := by omega
 have syr : w.heap.size + 1 + 1 < w1.heap.size + 1 + 1 := by omega
 go_wp2_with fail
 refine (cr_pol S p _ hS hp).mono ?_
 rintro e w2 ⟨rfl, hm2⟩
 have mz : Mo w1 w2 := Mo.trans (by repeat (first | with_reducible exact Mo.refl _ | with_reducible apply Mo.drew | with_reducible apply Mo.alloc)) hm2
 have zw1a := sa
 have zw1b := sb
 have zw1r := sr
 clear ca0 ca1 ca2 ca3 ca4 ca5 fa sa sxa sya cb0 cb1 cb2 cb3 cb4 cb5 fb sb sxb syb cr0 cr1 cr2 cr3 cr4 cr5 fr sr sxr syr
 have Qa := Qa.mo mz
 have Qb := Qb.mo mz
 have Qr := Qr.mo mz
 have M := M.trans mz
 clear hm2 mz
 have Oa := Qa
 obtain ⟨⟨ca0, ca1, ca2, ca3, ca4, ca5⟩, fa, sa⟩ := Oa
 have fa := fun o => fa o
 have sxa : w.heap.size < w2.heap.size + 1 := by omega
 have sya : w.heap.size < w2.heap.size + 1 + 1 := by omega
 have Ob := Qb
 obtain ⟨⟨cb0, cb1, cb2, cb3, cb4, cb5⟩, fb, sb⟩ := Ob
 have fb := fun o => fb o
 have sxb : w.heap.size + 1 < w2.heap.size + 1 := by omega
 have syb : w.heap.size + 1 < w2.heap.size + 1 + 1 := by omega
 have Or := Qr
 obtain ⟨⟨cr0, cr1, cr2, cr3, cr4, cr5⟩, fr, sr⟩ := Or
 have fr := fun o => fr o
 have sxr : w.heap.size + 1 + 1 < w2.heap.size + 1 := by omega
 have syr : w.heap.size + 1 + 1 < w2.heap.size + 1 + 1 := by omega
 go_wp2
 refine bodyPost_ret (v := er 22) (by simp [results, Tryz.results61, go_sem, *]) rfl ?_
 refine ⟨rfl, ?_⟩
 repeat (first | with_reducible exact M | with_reducible exact Mo.refl _ | with_reducible apply Mo.drew | with_reducible apply Mo.drewN | with_reducible apply Mo.alloc | with_reducible refine Mo.setCell ?_ (by simp <;> omega) _)
end Go.Proofs.YtogomodbcjpfiaaGreatDoor

namespace Go.Proofs.YtogomodbcjpfiaaGreatDoor
open Go.RowKit
set_option maxHeartbeats 4000000 in
theorem rescale_ok (b : Bool) (n s S p : Int) (V : Int) (w : World) (hmt : ∀ w, Calls Tryz.prog 61 #[dc b n s, dc false 1 0, .int .i64 S, .int .i64 p] w fun e' w' => e' = .returned (.tuple #[dz V S, .int .i64 0]) ∧ Mo w w') :
  Calls Tryz.prog 51 #[dc b n s, .int .i64 S, .int .i64 p] w fun e' w' => e' = .returned (.tuple #[dz V S, .int .i64 0]) ∧ Mo w w' := by
 go_enter Tryz.func51, Tryz.ntmps51
 have a : Mo w ((((w).alloc (.cells #[.bool b, .int .u64 (l0 (n)), .int .u64 (l1 (n)), .int .u64 (l2 (n)), .int .u64 (l3 (n)), .int .i64 (s)] 26))).alloc (.cells #[.bool false, .int .u64 0, .int .u64 0, .int .u64 0, .int .u64 0, .int .i64 0] 26)) := by repeat (first | with_reducible exact Mo.refl _ | with_reducible apply Mo.alloc)
 have M := a
 have Qa : AtD ((((w).alloc (.cells #[.bool b, .int .u64 (l0 (n)), .int .u64 (l1 (n)), .int .u64 (l2 (n)), .int .u64 (l3 (n)), .int .i64 (s)] 26))).alloc (.cells #[.bool false, .int .u64 0, .int .u64 0, .int .u64 0, .int .u64 0, .int .i64 0] 26)) (w.heap.size) b n s := ⟨by simp [go_sem], fun o => by simp [go_sem], by simp <;> omega⟩
 have Qr : AtD ((((w).alloc (.cells #[.bool b, .int .u64 (l0 (n)), .int .u64 (l1 (n)), .int .u64 (l2 (n)), .int .u64 (l3 (n)), .int .i64 (s)] 26))).alloc (.cells #[.bool false, .int .u64 0, .int .u64 0, .int .u64 0, .int .u64 0, .int .i64 0] 26)) (w.heap.size + 1) false 0 0 := ⟨by simp [go_sem, zl0, zl1, zl2, zl3], fun o => by simp [go_sem], by simp <;> omega⟩
 clear a
 go_upto_region 1 with fail
 generalize ((((w).alloc (.cells #[.bool b, .int .u64 (l0 (n)), .int .u64 (l1 (n)), .int .u64 (l2 (n)), .int .u64 (l3 (n)), .int .i64 (s)] 26))).alloc (.cells #[.bool false, .int .u64 0, .int .u64 0, .int .u64 0, .int .u64 0, .int .i64 0] 26)) = W0 at *
 have Oa := Qa
 obtain ⟨⟨ca0, ca1, ca2, ca3, ca4, ca5⟩, fa, sa⟩ := Oa
 have fa := fun o => fa o
 have sxa : w.heap.size < W0.heap.size + 1 := by omega
 have sya : w.heap.size < W0.heap.size + 1 + 1 := by omega
 have Or := Qr
 obtain ⟨⟨cr0, cr1, cr2, cr3, cr4, cr5⟩, fr, sr⟩ := Or
 have fr := fun o => fr o
 have sxr : w.heap.size + 1 < W0.heap.size + 1 := by omega
 have syr : w.heap.size + 1 < W0.heap.size + 1 + 1 := by omega
 go_region_with
  (first | (go_at_call 72; refine (from20_any 1 _ ⟨by decide, by decide⟩).mono ?_; rintro e' w1 ⟨rfl, hm1⟩; have m1 : Mo W0 w1 := Mo.trans (by repeat (first | with_reducible exact Mo.refl _ | with_reducible apply Mo.drew | with_reducible apply Mo.alloc)) hm1; obtain ⟨⟨x0, x1, x2, x3, x4, x5⟩, _, xs⟩ := Qa.mo m1) | (go_at_call 61; refine (hmt _).mono ?_; rintro e' w2 ⟨rfl, hm2⟩; have m2 : Mo w1 w2 := Mo.trans (by repeat (first | with_reducible exact Mo.refl _ | with_reducible apply Mo.drew | with_reducible apply Mo.alloc)) hm2; have m3 := m1.trans m2; obtain ⟨⟨z0, z1, z2, z3, z4, z5⟩, zf, zs⟩ := Qr.mo m3; have zf := fun o => zf o))
 all_goals
  go_wp2
  have M := M.trans m3
  refine bodyPost_ret (v := .tuple #[dz V S, .int .i64 0]) (by simp [results, Tryz.results51, go_sem, *]) rfl ?_
  refine ⟨rfl, ?_⟩
  repeat (first | with_reducible exact M | with_reducible exact Mo.refl _ | with_reducible apply Mo.drew | with_reducible apply Mo.drewN | with_reducible apply Mo.alloc | with_reducible refine Mo.setCell ?_ (by simp <;> omega) _)
set_option maxHeartbeats 4000000 in
theorem rescale_er (b : Bool) (n s S p : Int) (e : Int) (w : World) (hmt : ∀ w, Calls Tryz.prog 61 #[dc b n s, dc false 1 0, .int .i64 S, .int .i64 p] w fun e' w' => e' = .returned (er e) ∧ Mo w w') :
  Calls Tryz.prog 51 #[dc b n s, .int .i64 S, .int .i64 p] w fun e' w' => e' = .returned (er e) ∧ Mo w w' := by
 go_enter Tryz.func51, Tryz.ntmps51
 have a : Mo w ((((w).alloc (.cells #[.bool b, .int .u64 (l0 (n)), .int .u64 (l1 (n)), .int .u64 (l2 (n)), .int .u64 (l3 (n)), .int .i64 (s)] 26))).alloc (.cells #[.bool false, .int .u64 0, .int .u64 0, .int .u64 0, .int .u64 0, .int .i64 0] 26)) := by repeat (first | with_reducible exact Mo.refl _ | with_reducible apply Mo.alloc)
 have M := a
 have Qa : AtD ((((w).alloc (.cells #[.bool b, .int .u64 (l0 (n)), .int .u64 (l1 (n)), .int .u64 (l2 (n)), .int .u64 (l3 (n)), .int .i64 (s)] 26))).alloc (.cells #[.bool false, .int .u64 0, .int .u64 0, .int .u64 0, .int .u64 0, .int .i64 0] 26)) (w.heap.size) b n s := ⟨by simp [go_sem], fun o => by simp [go_sem], by simp <;> omega⟩
 have Qr : AtD ((((w).alloc (.cells #[.bool b, .int .u64 (l0 (n)), .int .u64 (l1 (n)), .int .u64 (l2 (n)), .int .u64 (l3 (n)), .int .i64 (s)] 26))).alloc (.cells #[.bool false, .int .u64 0, .int .u64 0, .int .u64 0, .int .u64 0, .int .i64 0] 26)) (w.heap.size + 1) false 0 0 := ⟨by simp [go_sem, zl0, zl1, zl2, zl3], fun o => by simp [go_sem], by simp <;> omega⟩
 clear a
 go_upto_region 1 with fail
 generalize ((((w).alloc (.cells #[.bool b, .int .u64 (l0 (n)), .int .u64 (l1 (n)), .int .u64 (l2 (n)), .int .u64 (l3 (n)), .int .i64 (s)] 26))).alloc (.cells #[.bool false, .int .u64 0, .int .u64 0, .int .u64 0, .int .u64 0, .int .i64 0] 26)) = W0 at *
 have Oa := Qa
 obtain ⟨⟨ca0, ca1, ca2, ca3, ca4, ca5⟩, fa, sa⟩ := Oa
 have fa := fun o => fa o
 have sxa : w.heap.size < W0.heap.size + 1 := by omega
 have sya : w.heap.size < W0.heap.size + 1 + 1 := by omega
 have Or := Qr
 obtain ⟨⟨cr0, cr1, cr2, cr3, cr4, cr5⟩, fr, sr⟩ := Or
 have fr := fun o => fr o
 have sxr : w.heap.size + 1 < W0.heap.size + 1 := by omega
 have syr : w.heap.size + 1 < W0.heap.size + 1 + 1 := by omega
 go_region_with
  (first | (go_at_call 72; refine (from20_any 1 _ ⟨by decide, by decide⟩).mono ?_; rintro e' w1 ⟨rfl, hm1⟩; have m1 : Mo W0 w1 := Mo.trans (by repeat (first | with_reducible exact Mo.refl _ | with_reducible apply Mo.drew | with_reducible apply Mo.alloc)) hm1; obtain ⟨⟨x0, x1, x2, x3, x4, x5⟩, _, xs⟩ := Qa.mo m1) | (go_at_call 61; refine (hmt _).mono ?_; rintro e' w2 ⟨rfl, hm2⟩; have m2 : Mo w1 w2 := Mo.trans (by repeat (first | with_reducible exact Mo.refl _ | with_reducible apply Mo.drew | with_reducible apply Mo.alloc)) hm2; have m3 := m1.trans m2; obtain ⟨⟨z0, z1, z2, z3, z4, z5⟩, zf, zs⟩ := Qr.mo m3; have zf := fun o => zf o))
 all_goals
  go_wp2
  have M := M.trans m3
  refine bodyPost_ret (v := er e) (by simp [results, Tryz.results51, go_sem, *]) rfl ?_
  refine ⟨rfl, ?_⟩
  repeat (first | with_reducible exact M | with_reducible exact Mo.refl _ | with_reducible apply Mo.drew | with_reducible apply Mo.drewN | with_reducible apply Mo.alloc | with_reducible refine Mo.setCell ?_ (by simp <;> omega) _)
end Go.Proofs.YtogomodbcjpfiaaGreatDoor

namespace Go.Proofs.YtogomodbcjpfiaaGreatDoor
open Go.RowKit
theorem pw_pos (k : Int) : 0 < pw k := Int.pow_pos (by decide)
end Go.Proofs.YtogomodbcjpfiaaGreatDoor

namespace Go.Proofs.YtogomodbcjpfiaaGreatDoor
open Go.RowKit
theorem rescale_e2 (b : Bool) (n s S p : Int) (w : World) (hn0 : 0 ≤ n) (hn : n < MM) (h : ck b n s = 0) (hS : sc S = false) :
  Calls Tryz.prog 51 #[dc b n s, .int .i64 S, .int .i64 p] w fun e w' => e = .returned (er 21) ∧ Mo w w' :=
 rescale_er b n s S p 21 w (fun w => mulTo_e2 b false n 1 s 0 S p w hn0 hn (by decide) (by decide) h (by decide) hS)
theorem rescale_e3 (b : Bool) (n s S p : Int) (w : World) (hn0 : 0 ≤ n) (hn : n < MM) (h : ck b n s = 0) (hS : sc S = true) (hp : p < 1 ∨ 5 < p) :
  Calls Tryz.prog 51 #[dc b n s, .int .i64 S, .int .i64 p] w fun e w' => e = .returned (er 22) ∧ Mo w w' :=
 rescale_er b n s S p 22 w (fun w => mulTo_e3 b false n 1 s 0 S p w hn0 hn (by decide) (by decide) h (by decide) hS hp)
end Go.Proofs.YtogomodbcjpfiaaGreatDoor

namespace Go.Proofs.YtogomodbcjpfiaaGreatDoor
open Go.RowKit
set_option maxHeartbeats 2000000 in
theorem rcheck_n (b : Bool) (n s : Int) (w : World) (hn0 : 0 ≤ n) (hn : n < MM) : Calls Tryz.prog 42 #[dc b n s] w fun e w' => e = .returned (.int .i64 (ck b n s)) ∧ Mo w w' := by
 have q4 := eq4
 have z4 := zb hn0 hn
 by_cases h1 : s < 0
 ·have d1 : decide (s < 0) = true := decide_eq_true h1
  have e : Hid (ck b n s = 20) := by show _ = _; unfold ck sc; rw [decide_eq_false (p := 0 ≤ s) (by omega)]; rfl
  clear h1
  go_enter Tryz.func42, Tryz.ntmps42
  go_wp2
  go_ret
  exact ⟨by rw [e.out]; rfl, (Mo.refl _).alloc _ _⟩
 ·by_cases h2 : s > 18
  ·have d1 : decide (s < 0) = false := decide_eq_false h1
   have d2 : decide (s > 18) = true := decide_eq_true h2
   have e : Hid (ck b n s = 20) := by show _ = _; unfold ck sc; rw [decide_eq_false (p := s ≤ 18) (by omega)]; simp
   clear h1 h2
   go_enter Tryz.func42, Tryz.ntmps42
   go_wp2
   go_ret
   exact ⟨by rw [e.out]; rfl, (Mo.refl _).alloc _ _⟩
  ·have d1 : decide (s < 0) = false := decide_eq_false h1
   have d2 : decide (s > 18) = false := decide_eq_false h2
   have e : Hid (sc s = true) := by show _ = _; unfold sc; rw [decide_eq_true (p := 0 ≤ s) (by omega), decide_eq_true (p := s ≤ 18) (by omega)]; rfl
   clear h1 h2
   cases hb : b <;> cases hz : decide (n = 0)
   all_goals
    rw [hz] at z4
    have HZ : Hid _ := hz
    clear hz
    go_enter Tryz.func42, Tryz.ntmps42
    go_wp2
    go_ret
    exact ⟨by rw [ck, e.out, HZ.out]; rfl, (Mo.refl _).alloc _ _⟩
end Go.Proofs.YtogomodbcjpfiaaGreatDoor

namespace Go.Proofs.YtogomodbcjpfiaaGreatDoor
open Go.RowKit
theorem rescale_x (b : Bool) (n s S p : Int) (w : World) (hn0 : 0 ≤ n) (hn : n < MM) (h : ck b n s = 0) (hb : 0 ≤ s ∧ s ≤ 18) (hS : sc S = true) (hp1 : 1 ≤ p) (hp5 : p ≤ 5) :
  Calls Tryz.prog 51 #[dc b n s, .int .i64 S, .int .i64 p] w fun e' w' => e' = .returned (fx b (rdV b n s S p) S) ∧ Mo w w' := by
 have ha := fun w => mulTo_x b false n 1 s 0 S p w hn0 hn (by decide) (by decide) h (by decide) hb (by decide) hS hp1 hp5
 have e : (b != false) = b := by simp
 rw [e, Int.mul_one, Int.add_zero] at ha
 have h0 : 0 ≤ rdV b n s S p := by
  unfold rdV; split
  ·exact Int.mul_nonneg hn0 (Int.le_of_lt (pw_pos _))
  ·exact ro_nn hn0
 by_cases hr : rdV b n s S p < MM
 ·rw [fx_yes h0 hr] at ha ⊢
  exact rescale_ok b n s S p _ w ha
 ·rw [fx_no hr] at ha ⊢
  exact rescale_er b n s S p 7 w ha
end Go.Proofs.YtogomodbcjpfiaaGreatDoor

namespace Go.Proofs.YtogomodbcjpfiaaGreatDoor.V
open Go.RowKit
section
variable {P : Program} {o : Oper} {n : Nat} {l : List (Nat × Value)} {w : World} {ops : Array Oper} {rest : List Oper} {Q : Exit → Act → World → Prop} {K : Act → World → Prop}
theorem wo_val (v : Value) (h : (execOp (evl n l) o).run P w = .ok (.value v) w) (hk : K (fr n (ext l o.dst v)) w) : WO P o n l w K Q := ⟨o_val v h hk⟩
theorem wo_build (t : TypeId) (xs : List (Nat × Operand)) (ps : List (Nat × Value)) (v : Value) (ho : o.op = .build t xs.toArray) (hx : xs.map (fun p => (p.1, evl n l p.2)) = ps) (h : (Instr.build t ps.toArray).run P w = .ok v w) (hk : K (fr n (ext l o.dst v)) w) : WO P o n l w K Q := ⟨o_build t xs ps v ho hx h hk⟩
end
end Go.Proofs.YtogomodbcjpfiaaGreatDoor.V

namespace Go.Proofs.YtogomodbcjpfiaaGreatDoor
open Go.RowKit Go.ChangeMaps
theorem notb (r : Bool) (w : World) : (Op.unary .not (.bool r)).run Tryz.prog w = .ok (.bool (!r)) w := by kernel_rfl
/-! Maps from names to whole numbers, and from names to flags. -/
variable {w w' : World} {b : Nat} {al : List (ByteArray × Int)}
end Go.Proofs.YtogomodbcjpfiaaGreatDoor

namespace Go.Proofs.YtogomodbcjpfiaaGreatDoor
open Go.RowKit
theorem svv_bl {x : VL} (h : ¬ x.k = 0) : svv x vBl = false := by simp [svv, svl, vBl, h]
theorem isE_bad (e : Int) : isE (if isE e then e else 2) = true := by
 split
 ·assumption
 ·rfl
theorem ckv_vEr {e : Int} (h : isE e = true) : ckv (vEr e) = true := by
 have : bareV (vEr e) = vEr e := by unfold bareV vEr; simp
 unfold ckv; rw [this, svv_self]; unfold inB vEr; simp [h]
theorem ckv_vBad (e : Int) : ckv (vBad e) = true := ckv_vEr (isE_bad e)
theorem ckv_vFl (f : Bool) : ckv (vFl f) = true := by
 have : bareV (vFl f) = vFl f := by unfold bareV vFl; simp
 unfold ckv; rw [this, svv_self]; unfold inB vFl; simp
def askK (k : Int) (v : VL) : Int := if ask v = 0 then (if v.k = k then 0 else 2) else ask v
def negR (b : Bool) (n s : Int) : DR := ⟨!b && !decide (n = 0), n, s, 0⟩
def rndR (b : Bool) (n s S p : Int) : DR := if sc S then (if 1 ≤ p ∧ p ≤ 5 then fxR b (rdV b n s S p) S else erR 22) else erR 21
def negV (x : VL) : VL := if askK 1 x = 0 then numV (negR x.b x.n x.s) else vBad (askK 1 x)
def notV (x : VL) : VL := if askK 2 x = 0 then vFl (!x.f) else vBad (askK 2 x)
def mayV (x : VL) : VL := if ckv x then x else vBad 2
def ifV (c x y : VL) : VL := if askK 2 c = 0 then mayV (if c.f then x else y) else vBad (askK 2 c)
def rndV (x : VL) (S p : Int) : VL := if askK 1 x = 0 then numV (rndR x.b x.n x.s S p) else vBad (askK 1 x)
def blkV (x : VL) : VL := if ckv x then (if x.k = 4 then x else vFl (decide (x.k = 0))) else vBad 2
def fitV (x : VL) (tk ts p : Int) : VL := if ckv x then (if x.k = 4 then x else if x.k = 0 then x else if x.k = tk then (if x.k = 1 then rndV x ts p else x) else vBad 2) else vBad 2
end Go.Proofs.YtogomodbcjpfiaaGreatDoor
namespace Go.Proofs.YtogomodbcjpfiaaGreatDoor
open Go.RowKit
theorem fault1_n (x : VL) (kk : Nat) (w : World) (hA : At w kk x.cells) (hx : x.ok) : Calls Tryz.prog 31 #[.slice (some ⟨kk, 0, none⟩) 1 1] w fun e9 w' => e9 = .returned (.int .i64 (ask x)) ∧ Mo w w' := by
 refine w_enter 26 Tryz.func31 Tryz.ntmps31 rfl rfl ?_
 have M : Mo w w := Mo.refl _
 refine w_seq (w_reg ?_)
 refine wl_m (.const (.int .i64 (0))) (.int .i64 (0)) ?_
 refine w_nil (xn_then (w_seq (w_seq (w_reg ?_))))
 refine wl_m (.tmp 0) (.slice (some ⟨kk, 0, none⟩) 1 1) ?_
 refine wl_val (.int .i64 (1)) (len45 _ _ _ 1 _ (by exact rfl) _ _ _ _ _ _) rfl ?_
 refine wl_m (.const (.int .i64 (0))) (.int .i64 (0)) ?_
 refine w_nil (xn_then (w_block ?_))
 refine w_rounds 3 ?_
 refine w_seq (w_reg ?_)
 refine wl_b .lss 3 (.tmp 7) (.tmp 6) (.int .i64 (0)) (.int .i64 (1)) (.bool true) (lt3 (r := true) rfl _ _ _) ?_
 refine w_nil (xn_then (w_seq (w_condT rfl (w_skip (xn_then (w_seq (w_block (w_seq (w_reg ?_)))))))))
 refine wl_bin (fun x y => Instr.indexAt 45 x y) (.tmp 5) (.tmp 7) (.slice (some ⟨kk, 0, none⟩) 1 1) (.int .i64 (0)) (pt kk 0) (fun _ => rfl) rfl rfl (ix45 (i := 0) rfl (by decide) _) rfl ?_
 refine wl_l 28 (.tmp 9) (pt kk 0) (.agg (x.cells).toArray) (run_row hA 28 0 10 (x.cells) rfl Tryz.underlying28 rfl sz28) ?_
 refine wl_alloc 28 #[.int .i64 0, .bool false, .int .u64 0, .int .u64 0, .int .u64 0, .int .u64 0, .int .i64 0, .bool false, .string ⟨#[]⟩, .int .i64 0] rfl (fun _ => by kernel_rfl) rfl ?_
 intro k1 u1 hk hz hq Q1
 have ne_kk_k1 : kk ≠ k1 := by have := hA.lt; omega
 have N_k1 : w.heap.size ≤ k1 := by have := M.size; omega
 replace hA := hA.mo hq
 replace M := M.trans hq
 clear hk hz hq
 refine wl_st 28 (.tmp 4) (.tmp 10) k1 0 ((x.cells).toArray) _ (x.cells) Q1 rfl rfl rfl rfl rfl sz28 rfl rfl rfl ?_
 intro u2 hS Qn
 replace Q1 := Qn
 clear Qn
 replace hA := hS.other _ _ ne_kk_k1 hA
 replace M := hS.mo _ N_k1 M
 clear hS
 refine w_nil (xn_then (w_block (w_seq (w_reg ?_))))
 refine wl_l 28 (.tmp 4) (pt k1 0) (.agg (x.cells).toArray) (run_row Q1 28 0 10 (x.cells) rfl Tryz.underlying28 rfl sz28) ?_
 cases hf0 : ckv x with
 | true =>
  refine wl_call 13 [(.tmp 12)] _ [.agg (x.cells).toArray] (.int .i64 (0)) rfl rfl (fun _ _ => by kernel_rfl) (check_t hf0 hx _) rfl ?_
  intro u3 hq
  replace hA := hA.mo hq
  replace Q1 := Q1.mo hq
  replace M := M.trans hq
  clear hq
  refine wl_b .neq 32 (.tmp 13) (.const (.int .i64 (0))) (.int .i64 (0)) (.int .i64 (0)) (.bool false) (ne34 (r := true) rfl _ _ _) ?_
  refine wl_m (.tmp 14) (.bool false) ?_
  refine w_nil (xn_then (w_condF rfl (w_seq (w_reg ?_))))
  refine wl_f 28 0 (.tmp 4) (pt k1 0) (pt k1 0) ?_
  refine wl_l 3 (.tmp 16) (pt k1 0) (.int .i64 (x.k)) (run_one Q1 3 0 rfl Tryz.underlying3 rfl) ?_
  cases hf1 : decide (x.k = 4) with
  | true =>
   have hf1p := of_decide_eq_true hf1
   refine wl_b .eql 3 (.tmp 17) (.const (.int .i64 (4))) (.int .i64 (x.k)) (.int .i64 (4)) (.bool true) (eq3 hf1 _ _ _) ?_
   refine wl_m (.tmp 18) (.bool true) ?_
   refine w_nil (xn_then (w_condT rfl (w_seq (w_reg ?_))))
   refine wl_f 28 4 (.tmp 4) (pt k1 0) (pt k1 9) ?_
   refine wl_l 3 (.tmp 19) (pt k1 9) (.int .i64 (x.e)) (run_one Q1 3 9 rfl Tryz.underlying3 rfl) ?_
   refine wl_m (.tmp 20) (.int .i64 (x.e)) ?_
   refine w_nil (xn_then (w_ret (xr_blk (xr_blk (xr_then (xr_then (xr_blk (xr_then ?_))))))))
   exact w_ret1 _ (.int .i64 (x.e)) rfl rfl ⟨by first | (simp [ask, ask, hf0, hf1p]; done) | (rw [ask2_e hx (by assumption) (by assumption)]), M⟩
  | false =>
   have hf1p := of_decide_eq_false hf1
   refine wl_b .eql 3 (.tmp 17) (.const (.int .i64 (4))) (.int .i64 (x.k)) (.int .i64 (4)) (.bool false) (eq3 hf1 _ _ _) ?_
   refine wl_m (.tmp 18) (.bool false) ?_
   refine w_nil (xn_then (w_condF rfl (w_seq (w_reg ?_))))
   refine wl_f 28 0 (.tmp 4) (pt k1 0) (pt k1 0) ?_
   refine wl_l 3 (.tmp 22) (pt k1 0) (.int .i64 (x.k)) (run_one Q1 3 0 rfl Tryz.underlying3 rfl) ?_
   cases hf2 : decide (x.k = 0) with
   | true =>
    have hf2p := of_decide_eq_true hf2
    refine wl_b .eql 3 (.tmp 23) (.const (.int .i64 (0))) (.int .i64 (x.k)) (.int .i64 (0)) (.bool true) (eq3 hf2 _ _ _) ?_
    refine wl_m (.tmp 24) (.bool true) ?_
    refine w_nil (xn_then (w_condT rfl (w_seq (w_reg ?_))))
    refine wl_m (.const (.int .i64 (3))) (.int .i64 (3)) ?_
    refine w_nil (xn_then (w_ret (xr_blk (xr_blk (xr_then (xr_then (xr_blk (xr_then ?_))))))))
    exact w_ret1 _ (.int .i64 (3)) rfl rfl ⟨by first | (simp [ask, ask, hf0, hf2p]; done) | (rw [ask2_e hx (by assumption) (by assumption)]), M⟩
   | false =>
    have hf2p := of_decide_eq_false hf2
    refine wl_b .eql 3 (.tmp 23) (.const (.int .i64 (0))) (.int .i64 (x.k)) (.int .i64 (0)) (.bool false) (eq3 hf2 _ _ _) ?_
    refine wl_m (.tmp 24) (.bool false) ?_
    refine w_nil (xn_then (w_condF rfl (w_skip (xn_blk (xn_blk (xn_then (w_reg ?_)))))))
    refine wl_b .add 3 (.tmp 7) (.const (.int .i64 (1))) (.int .i64 (0)) (.int .i64 (1)) (.int .i64 (1)) (by kernel_rfl) ?_
    refine wl_m (.tmp 25) (.int .i64 (1)) ?_
    refine w_nil ?_
    refine xn_rounds ?_
    refine w_seq (w_reg ?_)
    refine wl_b .lss 3 (.tmp 7) (.tmp 6) (.int .i64 (1)) (.int .i64 (1)) (.bool false) (lt3 (r := false) rfl _ _ _) ?_
    refine w_nil (xn_then (w_seq (w_condF rfl (w_exit (xx_then (xx_then (xx_blk (xn_then (w_seq (w_reg ?_))))))))))
    refine wl_m (.const (.int .i64 (0))) (.int .i64 (0)) ?_
    refine w_nil (xn_then (w_ret ?_))
    exact w_ret1 _ (.int .i64 (0)) rfl rfl ⟨by first | (simp [ask, ask, hf0, hf1p, hf2p]; done) | (rw [ask2_e hx (by assumption) (by assumption)]), M⟩
 | false =>
  refine wl_call 13 [(.tmp 12)] _ [.agg (x.cells).toArray] (.int .i64 (1)) rfl rfl (fun _ _ => by kernel_rfl) (check_f hf0 hx _) rfl ?_
  intro u3 hq
  replace hA := hA.mo hq
  replace Q1 := Q1.mo hq
  replace M := M.trans hq
  clear hq
  refine wl_b .neq 32 (.tmp 13) (.const (.int .i64 (0))) (.int .i64 (1)) (.int .i64 (0)) (.bool true) (ne34 (r := false) rfl _ _ _) ?_
  refine wl_m (.tmp 14) (.bool true) ?_
  refine w_nil (xn_then (w_condT rfl (w_seq (w_reg ?_))))
  refine wl_m (.const (.int .i64 (2))) (.int .i64 (2)) ?_
  refine w_nil (xn_then (w_ret (xr_blk (xr_blk (xr_then (xr_then (xr_blk (xr_then ?_))))))))
  exact w_ret1 _ (.int .i64 (2)) rfl rfl ⟨by first | (simp [ask, ask, hf0]; done) | (rw [ask2_e hx (by assumption) (by assumption)]), M⟩
theorem faultFor_n (k : Int) (x : VL) (w : World) (hx : x.ok) : Calls Tryz.prog 44 #[.int .i64 k, x.v] w fun e9 w' => e9 = .returned (.int .i64 (askK k x)) ∧ Mo w w' := by
 refine w_enter 16 Tryz.func44 Tryz.ntmps44 rfl rfl ?_
 have M : Mo w w := Mo.refl _
 refine w_seq (w_reg ?_)
 refine wl_box 28 (.tmp 1) _ (((x.cells).toArray)) rfl rfl (fun _ => by kernel_rfl) rfl ?_
 intro k1 u1 hk hz hq Q1
 have N_k1 : w.heap.size ≤ k1 := by have := M.size; omega
 replace M := M.trans hq
 clear hk hz hq
 refine wl_m (.const (.int .i64 (0))) (.int .i64 (0)) ?_
 refine w_nil (xn_then (w_seq (w_seq (w_reg ?_))))
 refine wl_l 28 (.tmp 3) (pt k1 0) (.agg (x.cells).toArray) (run_row Q1 28 0 10 (x.cells) rfl Tryz.underlying28 rfl sz28) ?_
 refine wl_bs 45 1 [(0, (.tmp 6))] [(0, .agg (x.cells).toArray)] ((x.cells).toArray) 28 rfl rfl (fun _ => by kernel_rfl) rfl ?_
 intro k2 u2 hk hz hq Q2
 have ne_k1_k2 : k1 ≠ k2 := by have := Q1.lt; omega
 have N_k2 : w.heap.size ≤ k2 := by have := M.size; omega
 replace Q1 := Q1.mo hq
 replace M := M.trans hq
 clear hk hz hq
 refine wl_call 31 [(.tmp 7)] _ [.slice (some ⟨k2, 0, none⟩) 1 1] (.int .i64 (ask x)) rfl rfl (fun _ _ => by kernel_rfl) (fault1_n x k2 _ Q2 hx) rfl ?_
 intro u3 hq
 replace Q1 := Q1.mo hq
 replace Q2 := Q2.mo hq
 replace M := M.trans hq
 clear hq
 refine wl_m (.tmp 8) (.int .i64 (ask x)) ?_
 refine w_nil (xn_then (w_seq (w_reg ?_)))
 refine wl_m (.tmp 5) (.int .i64 (ask x)) ?_
 cases hf0 : decide (ask x = 0) with
 | true =>
  have hf0p := of_decide_eq_true hf0
  refine wl_b .neq 3 (.tmp 9) (.const (.int .i64 (0))) (.int .i64 (ask x)) (.int .i64 (0)) (.bool false) (ne3 hf0 _ _ _) ?_
  refine w_nil (xn_then (w_condF rfl (w_skip (xn_then (w_seq (w_seq (w_reg ?_)))))))
  refine wl_f 28 0 (.tmp 3) (pt k1 0) (pt k1 0) ?_
  refine wl_l 3 (.tmp 12) (pt k1 0) (.int .i64 (x.k)) (run_one Q1 3 0 rfl Tryz.underlying3 rfl) ?_
  refine wl_m (.tmp 0) (.int .i64 (k)) ?_
  cases hf1 : decide (x.k = k) with
  | true =>
   have hf1p := of_decide_eq_true hf1
   refine wl_b .neq 3 (.tmp 13) (.tmp 14) (.int .i64 (x.k)) (.int .i64 (k)) (.bool false) (ne3 hf1 _ _ _) ?_
   refine w_nil (xn_then (w_condF rfl (w_skip (xn_then (w_seq (w_reg ?_))))))
   refine wl_m (.const (.int .i64 (0))) (.int .i64 (0)) ?_
   refine w_nil (xn_then (w_ret ?_))
   exact w_ret1 _ (.int .i64 (0)) rfl rfl ⟨by simp [askK, hf0p, hf1p], M⟩
  | false =>
   have hf1p := of_decide_eq_false hf1
   refine wl_b .neq 3 (.tmp 13) (.tmp 14) (.int .i64 (x.k)) (.int .i64 (k)) (.bool true) (ne3 hf1 _ _ _) ?_
   refine w_nil (xn_then (w_condT rfl (w_seq (w_reg ?_))))
   refine wl_m (.const (.int .i64 (2))) (.int .i64 (2)) ?_
   refine w_nil (xn_then (w_ret (xr_then ?_)))
   exact w_ret1 _ (.int .i64 (2)) rfl rfl ⟨by simp [askK, hf0p, hf1p], M⟩
 | false =>
  have hf0p := of_decide_eq_false hf0
  refine wl_b .neq 3 (.tmp 9) (.const (.int .i64 (0))) (.int .i64 (ask x)) (.int .i64 (0)) (.bool true) (ne3 hf0 _ _ _) ?_
  refine w_nil (xn_then (w_condT rfl (w_seq (w_reg ?_))))
  refine wl_m (.tmp 5) (.int .i64 (ask x)) ?_
  refine wl_m (.tmp 11) (.int .i64 (ask x)) ?_
  refine w_nil (xn_then (w_ret (xr_then ?_)))
  exact w_ret1 _ (.int .i64 (ask x)) rfl rfl ⟨by simp [askK, hf0p], M⟩
end Go.Proofs.YtogomodbcjpfiaaGreatDoor
namespace Go.Proofs.YtogomodbcjpfiaaGreatDoor
open Go.RowKit
theorem pneg_n (b : Bool) (n s : Int) (w : World) (hn0 : 0 ≤ n) (hn : n < MM) (h1 : ck b n s = 0) : Calls Tryz.prog 46 #[dc b n s] w fun e9 w' => e9 = .returned (negR b n s).v ∧ Mo w w' := neg_ok b n s w hn0 hn h1
theorem prnd_n (b : Bool) (n s S p : Int) (w : World) (hn0 : 0 ≤ n) (hn : n < MM) (h1 : ck b n s = 0) : Calls Tryz.prog 51 #[dc b n s, .int .i64 S, .int .i64 p] w fun e9 w' => e9 = .returned (rndR b n s S p).v ∧ Mo w w' := by
 unfold rndR
 cases hS : sc S with
 | false => exact rescale_e2 b n s S p w hn0 hn h1 hS
 | true =>
  by_cases hp : 1 ≤ p ∧ p ≤ 5
  ·rw [if_pos rfl, if_pos hp, ← fx_v]
   exact rescale_x b n s S p w hn0 hn h1 (sc_iff.1 (ck_s h1)) hS hp.1 hp.2
  ·rw [if_pos rfl, if_neg hp]
   exact rescale_e3 b n s S p w hn0 hn h1 hS (by omega)
theorem askK_0 {k : Int} {x : VL} (h : askK k x = 0) : ask x = 0 ∧ x.k = k := by
 unfold askK at h
 split at h
 next q =>
  refine ⟨q, ?_⟩
  split at h
  next g => exact g
  next => exact absurd h (by decide)
 next q => exact absurd h q
theorem num_of {x : VL} (hx : x.ok) (h : askK 1 x = 0) : ck x.b x.n x.s = 0 := (ckv_num hx (ask_0 hx (askK_0 h).1).1 (askK_0 h).2).2
theorem neg_n (x : VL) (w : World) (hx : x.ok) : Calls Tryz.prog 17 #[x.v] w fun e9 w' => e9 = .returned (negV x).v ∧ Mo w w' := by
 refine w_enter 16 Tryz.func17 Tryz.ntmps17 rfl rfl ?_
 have M : Mo w w := Mo.refl _
 refine w_seq (w_reg ?_)
 refine wl_box 28 (.tmp 0) _ (((x.cells).toArray)) rfl rfl (fun _ => by kernel_rfl) rfl ?_
 intro k1 u1 hk hz hq Q1
 have N_k1 : w.heap.size ≤ k1 := by have := M.size; omega
 replace M := M.trans hq
 clear hk hz hq
 refine wl_alloc 28 #[.int .i64 0, .bool false, .int .u64 0, .int .u64 0, .int .u64 0, .int .u64 0, .int .i64 0, .bool false, .string ⟨#[]⟩, .int .i64 0] rfl (fun _ => by kernel_rfl) rfl ?_
 intro k2 u2 hk hz hq Q2
 have ne_k1_k2 : k1 ≠ k2 := by have := Q1.lt; omega
 have N_k2 : w.heap.size ≤ k2 := by have := M.size; omega
 replace Q1 := Q1.mo hq
 replace M := M.trans hq
 clear hk hz hq
 refine w_nil (xn_then (w_seq (w_seq (w_reg ?_))))
 refine wl_l 28 (.tmp 1) (pt k1 0) (.agg (x.cells).toArray) (run_row Q1 28 0 10 (x.cells) rfl Tryz.underlying28 rfl sz28) ?_
 refine wl_call 44 [(.const (.int .i64 (1))), (.tmp 4)] _ [.int .i64 (1), .agg (x.cells).toArray] (.int .i64 (askK (1) x)) rfl rfl (fun _ _ => by kernel_rfl) (faultFor_n (1) x _ hx) rfl ?_
 intro u3 hq
 replace Q1 := Q1.mo hq
 replace Q2 := Q2.mo hq
 replace M := M.trans hq
 clear hq
 refine wl_m (.tmp 5) (.int .i64 (askK (1) x)) ?_
 refine w_nil (xn_then (w_seq (w_reg ?_)))
 refine wl_m (.tmp 3) (.int .i64 (askK (1) x)) ?_
 cases hf0 : decide (askK (1) x = 0) with
 | true =>
  have hf0p := of_decide_eq_true hf0
  refine wl_b .neq 3 (.tmp 6) (.const (.int .i64 (0))) (.int .i64 (askK (1) x)) (.int .i64 (0)) (.bool false) (ne3 hf0 _ _ _) ?_
  refine w_nil (xn_then (w_condF rfl (w_skip (xn_then (w_seq (w_reg ?_))))))
  refine wl_f 28 1 (.tmp 1) (pt k1 0) (pt k1 1) ?_
  refine wl_l 26 (.tmp 10) (pt k1 1) (.agg #[.bool x.b, .int .u64 (l0 x.n), .int .u64 (l1 x.n), .int .u64 (l2 x.n), .int .u64 (l3 x.n), .int .i64 x.s]) (run_row Q1 26 1 6 _ rfl Tryz.underlying26 rfl sz26) ?_
  refine wl_call 46 [(.tmp 11)] _ [.agg #[.bool x.b, .int .u64 (l0 x.n), .int .u64 (l1 x.n), .int .u64 (l2 x.n), .int .u64 (l3 x.n), .int .i64 x.s]] (.tuple #[.agg #[.bool (negR x.b x.n x.s).b, .int .u64 (l0 (negR x.b x.n x.s).n), .int .u64 (l1 (negR x.b x.n x.s).n), .int .u64 (l2 (negR x.b x.n x.s).n), .int .u64 (l3 (negR x.b x.n x.s).n), .int .i64 (negR x.b x.n x.s).s], .int .i64 ((negR x.b x.n x.s).e)]) rfl rfl (fun _ _ => by kernel_rfl) (pneg_n x.b x.n x.s _ hx.1 hx.2 (num_of hx (by assumption))) rfl ?_
  intro u4 hq
  replace Q1 := Q1.mo hq
  replace Q2 := Q2.mo hq
  replace M := M.trans hq
  clear hq
  refine wl_un (fun v => Instr.extract v 0) (.tmp 12) (.tuple #[.agg #[.bool (negR x.b x.n x.s).b, .int .u64 (l0 (negR x.b x.n x.s).n), .int .u64 (l1 (negR x.b x.n x.s).n), .int .u64 (l2 (negR x.b x.n x.s).n), .int .u64 (l3 (negR x.b x.n x.s).n), .int .i64 (negR x.b x.n x.s).s], .int .i64 ((negR x.b x.n x.s).e)]) (.agg #[.bool (negR x.b x.n x.s).b, .int .u64 (l0 (negR x.b x.n x.s).n), .int .u64 (l1 (negR x.b x.n x.s).n), .int .u64 (l2 (negR x.b x.n x.s).n), .int .u64 (l3 (negR x.b x.n x.s).n), .int .i64 (negR x.b x.n x.s).s]) (fun _ => rfl) rfl (by kernel_rfl) rfl ?_
  refine wl_un (fun v => Instr.extract v 1) (.tmp 12) (.tuple #[.agg #[.bool (negR x.b x.n x.s).b, .int .u64 (l0 (negR x.b x.n x.s).n), .int .u64 (l1 (negR x.b x.n x.s).n), .int .u64 (l2 (negR x.b x.n x.s).n), .int .u64 (l3 (negR x.b x.n x.s).n), .int .i64 (negR x.b x.n x.s).s], .int .i64 ((negR x.b x.n x.s).e)]) (.int .i64 ((negR x.b x.n x.s).e)) (fun _ => rfl) rfl (by kernel_rfl) rfl ?_
  refine wl_call 45 [(.tmp 13), (.tmp 14)] _ [.agg #[.bool (negR x.b x.n x.s).b, .int .u64 (l0 (negR x.b x.n x.s).n), .int .u64 (l1 (negR x.b x.n x.s).n), .int .u64 (l2 (negR x.b x.n x.s).n), .int .u64 (l3 (negR x.b x.n x.s).n), .int .i64 (negR x.b x.n x.s).s], .int .i64 ((negR x.b x.n x.s).e)] (.agg ((numV (negR x.b x.n x.s)).cells).toArray) rfl rfl (fun _ _ => by kernel_rfl) (number_n (negR x.b x.n x.s) _) rfl ?_
  intro u5 hq
  replace Q1 := Q1.mo hq
  replace Q2 := Q2.mo hq
  replace M := M.trans hq
  clear hq
  refine wl_st 28 (.tmp 2) (.tmp 15) k2 0 (((numV (negR x.b x.n x.s)).cells).toArray) _ ((numV (negR x.b x.n x.s)).cells) Q2 rfl rfl rfl rfl rfl sz28 rfl rfl rfl ?_
  intro u6 hS Qn
  replace Q2 := Qn
  clear Qn
  replace Q1 := hS.other _ _ ne_k1_k2 Q1
  replace M := hS.mo _ N_k2 M
  clear hS
  refine w_nil (xn_then (w_ret ?_))
  exact w_ret1 _ (.agg ((numV (negR x.b x.n x.s)).cells).toArray) rfl ⟨k2, rfl, (run_row Q2 28 0 10 ((numV (negR x.b x.n x.s)).cells) rfl Tryz.underlying28 rfl sz28)⟩ ⟨vrt (x := (numV (negR x.b x.n x.s))) rfl (by simp [negV, hf0p]), M⟩
 | false =>
  have hf0p := of_decide_eq_false hf0
  refine wl_b .neq 3 (.tmp 6) (.const (.int .i64 (0))) (.int .i64 (askK (1) x)) (.int .i64 (0)) (.bool true) (ne3 hf0 _ _ _) ?_
  refine w_nil (xn_then (w_condT rfl (w_seq (w_reg ?_))))
  refine wl_m (.tmp 3) (.int .i64 (askK (1) x)) ?_
  refine wl_call 15 [(.tmp 8)] _ [.int .i64 (askK (1) x)] (.agg ((vBad (askK (1) x)).cells).toArray) rfl rfl (fun _ _ => by kernel_rfl) (bad_n (askK (1) x) _) rfl ?_
  intro u4 hq
  replace Q1 := Q1.mo hq
  replace Q2 := Q2.mo hq
  replace M := M.trans hq
  clear hq
  refine wl_st 28 (.tmp 2) (.tmp 9) k2 0 (((vBad (askK (1) x)).cells).toArray) _ ((vBad (askK (1) x)).cells) Q2 rfl rfl rfl rfl rfl sz28 rfl rfl rfl ?_
  intro u5 hS Qn
  replace Q2 := Qn
  clear Qn
  replace Q1 := hS.other _ _ ne_k1_k2 Q1
  replace M := hS.mo _ N_k2 M
  clear hS
  refine w_nil (xn_then (w_ret (xr_then ?_)))
  exact w_ret1 _ (.agg ((vBad (askK (1) x)).cells).toArray) rfl ⟨k2, rfl, (run_row Q2 28 0 10 ((vBad (askK (1) x)).cells) rfl Tryz.underlying28 rfl sz28)⟩ ⟨vrt (x := (vBad (askK (1) x))) rfl (by simp [negV, hf0p]), M⟩
theorem not_n (x : VL) (w : World) (hx : x.ok) : Calls Tryz.prog 19 #[x.v] w fun e9 w' => e9 = .returned (notV x).v ∧ Mo w w' := by
 refine w_enter 14 Tryz.func19 Tryz.ntmps19 rfl rfl ?_
 have M : Mo w w := Mo.refl _
 refine w_seq (w_reg ?_)
 refine wl_box 28 (.tmp 0) _ (((x.cells).toArray)) rfl rfl (fun _ => by kernel_rfl) rfl ?_
 intro k1 u1 hk hz hq Q1
 have N_k1 : w.heap.size ≤ k1 := by have := M.size; omega
 replace M := M.trans hq
 clear hk hz hq
 refine wl_alloc 28 #[.int .i64 0, .bool false, .int .u64 0, .int .u64 0, .int .u64 0, .int .u64 0, .int .i64 0, .bool false, .string ⟨#[]⟩, .int .i64 0] rfl (fun _ => by kernel_rfl) rfl ?_
 intro k2 u2 hk hz hq Q2
 have ne_k1_k2 : k1 ≠ k2 := by have := Q1.lt; omega
 have N_k2 : w.heap.size ≤ k2 := by have := M.size; omega
 replace Q1 := Q1.mo hq
 replace M := M.trans hq
 clear hk hz hq
 refine w_nil (xn_then (w_seq (w_seq (w_reg ?_))))
 refine wl_l 28 (.tmp 1) (pt k1 0) (.agg (x.cells).toArray) (run_row Q1 28 0 10 (x.cells) rfl Tryz.underlying28 rfl sz28) ?_
 refine wl_call 44 [(.const (.int .i64 (2))), (.tmp 4)] _ [.int .i64 (2), .agg (x.cells).toArray] (.int .i64 (askK (2) x)) rfl rfl (fun _ _ => by kernel_rfl) (faultFor_n (2) x _ hx) rfl ?_
 intro u3 hq
 replace Q1 := Q1.mo hq
 replace Q2 := Q2.mo hq
 replace M := M.trans hq
 clear hq
 refine wl_m (.tmp 5) (.int .i64 (askK (2) x)) ?_
 refine w_nil (xn_then (w_seq (w_reg ?_)))
 refine wl_m (.tmp 3) (.int .i64 (askK (2) x)) ?_
 cases hf0 : decide (askK (2) x = 0) with
 | true =>
  have hf0p := of_decide_eq_true hf0
  refine wl_b .neq 3 (.tmp 6) (.const (.int .i64 (0))) (.int .i64 (askK (2) x)) (.int .i64 (0)) (.bool false) (ne3 hf0 _ _ _) ?_
  refine w_nil (xn_then (w_condF rfl (w_skip (xn_then (w_seq (w_reg ?_))))))
  refine wl_f 28 2 (.tmp 1) (pt k1 0) (pt k1 7) ?_
  refine wl_l 4 (.tmp 10) (pt k1 7) (.bool x.f) (run_one Q1 4 7 rfl Tryz.underlying4 rfl) ?_
  refine wl_un (fun v => Op.unary .not v) (.tmp 11) (.bool x.f) (.bool (!x.f)) (fun _ => rfl) rfl (notb _ _) rfl ?_
  refine wl_call 33 [(.tmp 12)] _ [.bool (!x.f)] (.agg ((vFl (!x.f)).cells).toArray) rfl rfl (fun _ _ => by kernel_rfl) (flag_n (!x.f) _) rfl ?_
  intro u4 hq
  replace Q1 := Q1.mo hq
  replace Q2 := Q2.mo hq
  replace M := M.trans hq
  clear hq
  refine wl_st 28 (.tmp 2) (.tmp 13) k2 0 (((vFl (!x.f)).cells).toArray) _ ((vFl (!x.f)).cells) Q2 rfl rfl rfl rfl rfl sz28 rfl rfl rfl ?_
  intro u5 hS Qn
  replace Q2 := Qn
  clear Qn
  replace Q1 := hS.other _ _ ne_k1_k2 Q1
  replace M := hS.mo _ N_k2 M
  clear hS
  refine w_nil (xn_then (w_ret ?_))
  exact w_ret1 _ (.agg ((vFl (!x.f)).cells).toArray) rfl ⟨k2, rfl, (run_row Q2 28 0 10 ((vFl (!x.f)).cells) rfl Tryz.underlying28 rfl sz28)⟩ ⟨vrt (x := (vFl (!x.f))) rfl (by simp [notV, hf0p]), M⟩
 | false =>
  have hf0p := of_decide_eq_false hf0
  refine wl_b .neq 3 (.tmp 6) (.const (.int .i64 (0))) (.int .i64 (askK (2) x)) (.int .i64 (0)) (.bool true) (ne3 hf0 _ _ _) ?_
  refine w_nil (xn_then (w_condT rfl (w_seq (w_reg ?_))))
  refine wl_m (.tmp 3) (.int .i64 (askK (2) x)) ?_
  refine wl_call 15 [(.tmp 8)] _ [.int .i64 (askK (2) x)] (.agg ((vBad (askK (2) x)).cells).toArray) rfl rfl (fun _ _ => by kernel_rfl) (bad_n (askK (2) x) _) rfl ?_
  intro u4 hq
  replace Q1 := Q1.mo hq
  replace Q2 := Q2.mo hq
  replace M := M.trans hq
  clear hq
  refine wl_st 28 (.tmp 2) (.tmp 9) k2 0 (((vBad (askK (2) x)).cells).toArray) _ ((vBad (askK (2) x)).cells) Q2 rfl rfl rfl rfl rfl sz28 rfl rfl rfl ?_
  intro u5 hS Qn
  replace Q2 := Qn
  clear Qn
  replace Q1 := hS.other _ _ ne_k1_k2 Q1
  replace M := hS.mo _ N_k2 M
  clear hS
  refine w_nil (xn_then (w_ret (xr_then ?_)))
  exact w_ret1 _ (.agg ((vBad (askK (2) x)).cells).toArray) rfl ⟨k2, rfl, (run_row Q2 28 0 10 ((vBad (askK (2) x)).cells) rfl Tryz.underlying28 rfl sz28)⟩ ⟨vrt (x := (vBad (askK (2) x))) rfl (by simp [notV, hf0p]), M⟩
theorem rnd_n (x : VL) (S p : Int) (w : World) (hx : x.ok) : Calls Tryz.prog 23 #[x.v, .int .i64 S, .int .i64 p] w fun e9 w' => e9 = .returned (rndV x S p).v ∧ Mo w w' := by
 refine w_enter 22 Tryz.func23 Tryz.ntmps23 rfl rfl ?_
 have M : Mo w w := Mo.refl _
 refine w_seq (w_reg ?_)
 refine wl_box 28 (.tmp 0) _ (((x.cells).toArray)) rfl rfl (fun _ => by kernel_rfl) rfl ?_
 intro k1 u1 hk hz hq Q1
 have N_k1 : w.heap.size ≤ k1 := by have := M.size; omega
 replace M := M.trans hq
 clear hk hz hq
 refine wl_alloc 28 #[.int .i64 0, .bool false, .int .u64 0, .int .u64 0, .int .u64 0, .int .u64 0, .int .i64 0, .bool false, .string ⟨#[]⟩, .int .i64 0] rfl (fun _ => by kernel_rfl) rfl ?_
 intro k2 u2 hk hz hq Q2
 have ne_k1_k2 : k1 ≠ k2 := by have := Q1.lt; omega
 have N_k2 : w.heap.size ≤ k2 := by have := M.size; omega
 replace Q1 := Q1.mo hq
 replace M := M.trans hq
 clear hk hz hq
 refine w_nil (xn_then (w_seq (w_seq (w_reg ?_))))
 refine wl_l 28 (.tmp 3) (pt k1 0) (.agg (x.cells).toArray) (run_row Q1 28 0 10 (x.cells) rfl Tryz.underlying28 rfl sz28) ?_
 refine wl_call 44 [(.const (.int .i64 (1))), (.tmp 8)] _ [.int .i64 (1), .agg (x.cells).toArray] (.int .i64 (askK (1) x)) rfl rfl (fun _ _ => by kernel_rfl) (faultFor_n (1) x _ hx) rfl ?_
 intro u3 hq
 replace Q1 := Q1.mo hq
 replace Q2 := Q2.mo hq
 replace M := M.trans hq
 clear hq
 refine wl_m (.tmp 9) (.int .i64 (askK (1) x)) ?_
 refine w_nil (xn_then (w_seq (w_reg ?_)))
 refine wl_m (.tmp 7) (.int .i64 (askK (1) x)) ?_
 cases hf0 : decide (askK (1) x = 0) with
 | true =>
  have hf0p := of_decide_eq_true hf0
  refine wl_b .neq 3 (.tmp 10) (.const (.int .i64 (0))) (.int .i64 (askK (1) x)) (.int .i64 (0)) (.bool false) (ne3 hf0 _ _ _) ?_
  refine w_nil (xn_then (w_condF rfl (w_skip (xn_then (w_seq (w_reg ?_))))))
  refine wl_f 28 1 (.tmp 3) (pt k1 0) (pt k1 1) ?_
  refine wl_l 26 (.tmp 14) (pt k1 1) (.agg #[.bool x.b, .int .u64 (l0 x.n), .int .u64 (l1 x.n), .int .u64 (l2 x.n), .int .u64 (l3 x.n), .int .i64 x.s]) (run_row Q1 26 1 6 _ rfl Tryz.underlying26 rfl sz26) ?_
  refine wl_m (.tmp 1) (.int .i64 (S)) ?_
  refine wl_m (.tmp 2) (.int .i64 (p)) ?_
  refine wl_call 51 [(.tmp 15), (.tmp 16), (.tmp 17)] _ [.agg #[.bool x.b, .int .u64 (l0 x.n), .int .u64 (l1 x.n), .int .u64 (l2 x.n), .int .u64 (l3 x.n), .int .i64 x.s], .int .i64 (S), .int .i64 (p)] (.tuple #[.agg #[.bool (rndR x.b x.n x.s S p).b, .int .u64 (l0 (rndR x.b x.n x.s S p).n), .int .u64 (l1 (rndR x.b x.n x.s S p).n), .int .u64 (l2 (rndR x.b x.n x.s S p).n), .int .u64 (l3 (rndR x.b x.n x.s S p).n), .int .i64 (rndR x.b x.n x.s S p).s], .int .i64 ((rndR x.b x.n x.s S p).e)]) rfl rfl (fun _ _ => by kernel_rfl) (prnd_n x.b x.n x.s S p _ hx.1 hx.2 (num_of hx (by assumption))) rfl ?_
  intro u4 hq
  replace Q1 := Q1.mo hq
  replace Q2 := Q2.mo hq
  replace M := M.trans hq
  clear hq
  refine wl_un (fun v => Instr.extract v 0) (.tmp 18) (.tuple #[.agg #[.bool (rndR x.b x.n x.s S p).b, .int .u64 (l0 (rndR x.b x.n x.s S p).n), .int .u64 (l1 (rndR x.b x.n x.s S p).n), .int .u64 (l2 (rndR x.b x.n x.s S p).n), .int .u64 (l3 (rndR x.b x.n x.s S p).n), .int .i64 (rndR x.b x.n x.s S p).s], .int .i64 ((rndR x.b x.n x.s S p).e)]) (.agg #[.bool (rndR x.b x.n x.s S p).b, .int .u64 (l0 (rndR x.b x.n x.s S p).n), .int .u64 (l1 (rndR x.b x.n x.s S p).n), .int .u64 (l2 (rndR x.b x.n x.s S p).n), .int .u64 (l3 (rndR x.b x.n x.s S p).n), .int .i64 (rndR x.b x.n x.s S p).s]) (fun _ => rfl) rfl (by kernel_rfl) rfl ?_
  refine wl_un (fun v => Instr.extract v 1) (.tmp 18) (.tuple #[.agg #[.bool (rndR x.b x.n x.s S p).b, .int .u64 (l0 (rndR x.b x.n x.s S p).n), .int .u64 (l1 (rndR x.b x.n x.s S p).n), .int .u64 (l2 (rndR x.b x.n x.s S p).n), .int .u64 (l3 (rndR x.b x.n x.s S p).n), .int .i64 (rndR x.b x.n x.s S p).s], .int .i64 ((rndR x.b x.n x.s S p).e)]) (.int .i64 ((rndR x.b x.n x.s S p).e)) (fun _ => rfl) rfl (by kernel_rfl) rfl ?_
  refine wl_call 45 [(.tmp 19), (.tmp 20)] _ [.agg #[.bool (rndR x.b x.n x.s S p).b, .int .u64 (l0 (rndR x.b x.n x.s S p).n), .int .u64 (l1 (rndR x.b x.n x.s S p).n), .int .u64 (l2 (rndR x.b x.n x.s S p).n), .int .u64 (l3 (rndR x.b x.n x.s S p).n), .int .i64 (rndR x.b x.n x.s S p).s], .int .i64 ((rndR x.b x.n x.s S p).e)] (.agg ((numV (rndR x.b x.n x.s S p)).cells).toArray) rfl rfl (fun _ _ => by kernel_rfl) (number_n (rndR x.b x.n x.s S p) _) rfl ?_
  intro u5 hq
  replace Q1 := Q1.mo hq
  replace Q2 := Q2.mo hq
  replace M := M.trans hq
  clear hq
  refine wl_st 28 (.tmp 6) (.tmp 21) k2 0 (((numV (rndR x.b x.n x.s S p)).cells).toArray) _ ((numV (rndR x.b x.n x.s S p)).cells) Q2 rfl rfl rfl rfl rfl sz28 rfl rfl rfl ?_
  intro u6 hS Qn
  replace Q2 := Qn
  clear Qn
  replace Q1 := hS.other _ _ ne_k1_k2 Q1
  replace M := hS.mo _ N_k2 M
  clear hS
  refine w_nil (xn_then (w_ret ?_))
  exact w_ret1 _ (.agg ((numV (rndR x.b x.n x.s S p)).cells).toArray) rfl ⟨k2, rfl, (run_row Q2 28 0 10 ((numV (rndR x.b x.n x.s S p)).cells) rfl Tryz.underlying28 rfl sz28)⟩ ⟨vrt (x := (numV (rndR x.b x.n x.s S p))) rfl (by simp [rndV, hf0p]), M⟩
 | false =>
  have hf0p := of_decide_eq_false hf0
  refine wl_b .neq 3 (.tmp 10) (.const (.int .i64 (0))) (.int .i64 (askK (1) x)) (.int .i64 (0)) (.bool true) (ne3 hf0 _ _ _) ?_
  refine w_nil (xn_then (w_condT rfl (w_seq (w_reg ?_))))
  refine wl_m (.tmp 7) (.int .i64 (askK (1) x)) ?_
  refine wl_call 15 [(.tmp 12)] _ [.int .i64 (askK (1) x)] (.agg ((vBad (askK (1) x)).cells).toArray) rfl rfl (fun _ _ => by kernel_rfl) (bad_n (askK (1) x) _) rfl ?_
  intro u4 hq
  replace Q1 := Q1.mo hq
  replace Q2 := Q2.mo hq
  replace M := M.trans hq
  clear hq
  refine wl_st 28 (.tmp 6) (.tmp 13) k2 0 (((vBad (askK (1) x)).cells).toArray) _ ((vBad (askK (1) x)).cells) Q2 rfl rfl rfl rfl rfl sz28 rfl rfl rfl ?_
  intro u5 hS Qn
  replace Q2 := Qn
  clear Qn
  replace Q1 := hS.other _ _ ne_k1_k2 Q1
  replace M := hS.mo _ N_k2 M
  clear hS
  refine w_nil (xn_then (w_ret (xr_then ?_)))
  exact w_ret1 _ (.agg ((vBad (askK (1) x)).cells).toArray) rfl ⟨k2, rfl, (run_row Q2 28 0 10 ((vBad (askK (1) x)).cells) rfl Tryz.underlying28 rfl sz28)⟩ ⟨vrt (x := (vBad (askK (1) x))) rfl (by simp [rndV, hf0p]), M⟩
theorem if_n (c x y : VL) (w : World) (hc : c.ok) (hx : x.ok) (hy : y.ok) : Calls Tryz.prog 27 #[c.v, x.v, y.v] w fun e9 w' => e9 = .returned (ifV c x y).v ∧ Mo w w' := by
 refine w_enter 24 Tryz.func27 Tryz.ntmps27 rfl rfl ?_
 have M : Mo w w := Mo.refl _
 refine w_seq (w_reg ?_)
 refine wl_box 28 (.tmp 0) _ (((c.cells).toArray)) rfl rfl (fun _ => by kernel_rfl) rfl ?_
 intro k1 u1 hk hz hq Q1
 have N_k1 : w.heap.size ≤ k1 := by have := M.size; omega
 replace M := M.trans hq
 clear hk hz hq
 refine wl_box 28 (.tmp 1) _ (((x.cells).toArray)) rfl rfl (fun _ => by kernel_rfl) rfl ?_
 intro k2 u2 hk hz hq Q2
 have ne_k1_k2 : k1 ≠ k2 := by have := Q1.lt; omega
 have N_k2 : w.heap.size ≤ k2 := by have := M.size; omega
 replace Q1 := Q1.mo hq
 replace M := M.trans hq
 clear hk hz hq
 refine wl_box 28 (.tmp 2) _ (((y.cells).toArray)) rfl rfl (fun _ => by kernel_rfl) rfl ?_
 intro k3 u3 hk hz hq Q3
 have ne_k1_k3 : k1 ≠ k3 := by have := Q1.lt; omega
 have ne_k2_k3 : k2 ≠ k3 := by have := Q2.lt; omega
 have N_k3 : w.heap.size ≤ k3 := by have := M.size; omega
 replace Q1 := Q1.mo hq
 replace Q2 := Q2.mo hq
 replace M := M.trans hq
 clear hk hz hq
 refine wl_alloc 28 #[.int .i64 0, .bool false, .int .u64 0, .int .u64 0, .int .u64 0, .int .u64 0, .int .i64 0, .bool false, .string ⟨#[]⟩, .int .i64 0] rfl (fun _ => by kernel_rfl) rfl ?_
 intro k4 u4 hk hz hq Q4
 have ne_k1_k4 : k1 ≠ k4 := by have := Q1.lt; omega
 have ne_k2_k4 : k2 ≠ k4 := by have := Q2.lt; omega
 have ne_k3_k4 : k3 ≠ k4 := by have := Q3.lt; omega
 have N_k4 : w.heap.size ≤ k4 := by have := M.size; omega
 replace Q1 := Q1.mo hq
 replace Q2 := Q2.mo hq
 replace Q3 := Q3.mo hq
 replace M := M.trans hq
 clear hk hz hq
 refine w_nil (xn_then (w_seq (w_seq (w_reg ?_))))
 refine wl_l 28 (.tmp 3) (pt k1 0) (.agg (c.cells).toArray) (run_row Q1 28 0 10 (c.cells) rfl Tryz.underlying28 rfl sz28) ?_
 refine wl_call 44 [(.const (.int .i64 (2))), (.tmp 9)] _ [.int .i64 (2), .agg (c.cells).toArray] (.int .i64 (askK (2) c)) rfl rfl (fun _ _ => by kernel_rfl) (faultFor_n (2) c _ hc) rfl ?_
 intro u5 hq
 replace Q1 := Q1.mo hq
 replace Q2 := Q2.mo hq
 replace Q3 := Q3.mo hq
 replace Q4 := Q4.mo hq
 replace M := M.trans hq
 clear hq
 refine wl_m (.tmp 10) (.int .i64 (askK (2) c)) ?_
 refine w_nil (xn_then (w_seq (w_reg ?_)))
 refine wl_m (.tmp 7) (.int .i64 (askK (2) c)) ?_
 cases hf0 : decide (askK (2) c = 0) with
 | true =>
  have hf0p := of_decide_eq_true hf0
  refine wl_b .neq 3 (.tmp 11) (.const (.int .i64 (0))) (.int .i64 (askK (2) c)) (.int .i64 (0)) (.bool false) (ne3 hf0 _ _ _) ?_
  refine w_nil (xn_then (w_condF rfl (w_skip (xn_then (w_seq (w_reg ?_))))))
  refine wl_l 28 (.tmp 5) (pt k3 0) (.agg (y.cells).toArray) (run_row Q3 28 0 10 (y.cells) rfl Tryz.underlying28 rfl sz28) ?_
  refine wl_alloc 28 #[.int .i64 0, .bool false, .int .u64 0, .int .u64 0, .int .u64 0, .int .u64 0, .int .i64 0, .bool false, .string ⟨#[]⟩, .int .i64 0] rfl (fun _ => by kernel_rfl) rfl ?_
  intro k5 u6 hk hz hq Q5
  have ne_k1_k5 : k1 ≠ k5 := by have := Q1.lt; omega
  have ne_k2_k5 : k2 ≠ k5 := by have := Q2.lt; omega
  have ne_k3_k5 : k3 ≠ k5 := by have := Q3.lt; omega
  have ne_k4_k5 : k4 ≠ k5 := by have := Q4.lt; omega
  have N_k5 : w.heap.size ≤ k5 := by have := M.size; omega
  replace Q1 := Q1.mo hq
  replace Q2 := Q2.mo hq
  replace Q3 := Q3.mo hq
  replace Q4 := Q4.mo hq
  replace M := M.trans hq
  clear hk hz hq
  refine wl_st 28 (.tmp 8) (.tmp 15) k5 0 ((y.cells).toArray) _ (y.cells) Q5 rfl rfl rfl rfl rfl sz28 rfl rfl rfl ?_
  intro u7 hS Qn
  replace Q5 := Qn
  clear Qn
  replace Q1 := hS.other _ _ ne_k1_k5 Q1
  replace Q2 := hS.other _ _ ne_k2_k5 Q2
  replace Q3 := hS.other _ _ ne_k3_k5 Q3
  replace Q4 := hS.other _ _ ne_k4_k5 Q4
  replace M := hS.mo _ N_k5 M
  clear hS
  refine w_nil (xn_then (w_seq (w_seq (w_reg ?_))))
  refine wl_f 28 2 (.tmp 3) (pt k1 0) (pt k1 7) ?_
  refine wl_l 4 (.tmp 16) (pt k1 7) (.bool c.f) (run_one Q1 4 7 rfl Tryz.underlying4 rfl) ?_
  refine w_nil (xn_then ?_)
  cases hf1 : c.f with
  | true =>
   refine w_condT rfl (w_reg ?_)
   refine wl_l 28 (.tmp 4) (pt k2 0) (.agg (x.cells).toArray) (run_row Q2 28 0 10 (x.cells) rfl Tryz.underlying28 rfl sz28) ?_
   refine wl_st 28 (.tmp 8) (.tmp 18) k5 0 ((x.cells).toArray) (y.cells) (x.cells) Q5 rfl rfl rfl rfl rfl sz28 rfl rfl rfl ?_
   intro u8 hS Qn
   replace Q5 := Qn
   clear Qn
   replace Q1 := hS.other _ _ ne_k1_k5 Q1
   replace Q2 := hS.other _ _ ne_k2_k5 Q2
   replace Q3 := hS.other _ _ ne_k3_k5 Q3
   replace Q4 := hS.other _ _ ne_k4_k5 Q4
   replace M := hS.mo _ N_k5 M
   clear hS
   refine w_nil (xn_then (w_seq (w_seq (w_reg ?_))))
   refine wl_l 28 (.tmp 8) (pt k5 0) (.agg (x.cells).toArray) (run_row Q5 28 0 10 (x.cells) rfl Tryz.underlying28 rfl sz28) ?_
   cases hf2 : ckv x with
   | true =>
    refine wl_call 13 [(.tmp 19)] _ [.agg (x.cells).toArray] (.int .i64 (0)) rfl rfl (fun _ _ => by kernel_rfl) (check_t hf2 hx _) rfl ?_
    intro u9 hq
    replace Q1 := Q1.mo hq
    replace Q2 := Q2.mo hq
    replace Q3 := Q3.mo hq
    replace Q4 := Q4.mo hq
    replace Q5 := Q5.mo hq
    replace M := M.trans hq
    clear hq
    refine wl_b .neq 32 (.tmp 20) (.const (.int .i64 (0))) (.int .i64 (0)) (.int .i64 (0)) (.bool false) (ne34 (r := true) rfl _ _ _) ?_
    refine w_nil (xn_then (w_condF rfl (w_skip (xn_then (w_seq (w_reg ?_))))))
    refine wl_l 28 (.tmp 8) (pt k5 0) (.agg (x.cells).toArray) (run_row Q5 28 0 10 (x.cells) rfl Tryz.underlying28 rfl sz28) ?_
    refine wl_st 28 (.tmp 6) (.tmp 23) k4 0 ((x.cells).toArray) _ (x.cells) Q4 rfl rfl rfl rfl rfl sz28 rfl rfl rfl ?_
    intro u10 hS Qn
    replace Q4 := Qn
    clear Qn
    replace Q1 := hS.other _ _ ne_k1_k4 Q1
    replace Q2 := hS.other _ _ ne_k2_k4 Q2
    replace Q3 := hS.other _ _ ne_k3_k4 Q3
    replace Q5 := hS.other _ _ ne_k4_k5.symm Q5
    replace M := hS.mo _ N_k4 M
    clear hS
    refine w_nil (xn_then (w_ret ?_))
    exact w_ret1 _ (.agg (x.cells).toArray) rfl ⟨k4, rfl, (run_row Q4 28 0 10 (x.cells) rfl Tryz.underlying28 rfl sz28)⟩ ⟨vrt (x := x) rfl (by simp [ifV, mayV, hf0p, hf1, hf2]), M⟩
   | false =>
    refine wl_call 13 [(.tmp 19)] _ [.agg (x.cells).toArray] (.int .i64 (1)) rfl rfl (fun _ _ => by kernel_rfl) (check_f hf2 hx _) rfl ?_
    intro u9 hq
    replace Q1 := Q1.mo hq
    replace Q2 := Q2.mo hq
    replace Q3 := Q3.mo hq
    replace Q4 := Q4.mo hq
    replace Q5 := Q5.mo hq
    replace M := M.trans hq
    clear hq
    refine wl_b .neq 32 (.tmp 20) (.const (.int .i64 (0))) (.int .i64 (1)) (.int .i64 (0)) (.bool true) (ne34 (r := false) rfl _ _ _) ?_
    refine w_nil (xn_then (w_condT rfl (w_seq (w_reg ?_))))
    refine wl_call 15 [(.const (.int .i64 (2)))] _ [.int .i64 (2)] (.agg ((vBad (2)).cells).toArray) rfl rfl (fun _ _ => by kernel_rfl) (bad_n (2) _) rfl ?_
    intro u10 hq
    replace Q1 := Q1.mo hq
    replace Q2 := Q2.mo hq
    replace Q3 := Q3.mo hq
    replace Q4 := Q4.mo hq
    replace Q5 := Q5.mo hq
    replace M := M.trans hq
    clear hq
    refine wl_st 28 (.tmp 6) (.tmp 22) k4 0 (((vBad (2)).cells).toArray) _ ((vBad (2)).cells) Q4 rfl rfl rfl rfl rfl sz28 rfl rfl rfl ?_
    intro u11 hS Qn
    replace Q4 := Qn
    clear Qn
    replace Q1 := hS.other _ _ ne_k1_k4 Q1
    replace Q2 := hS.other _ _ ne_k2_k4 Q2
    replace Q3 := hS.other _ _ ne_k3_k4 Q3
    replace Q5 := hS.other _ _ ne_k4_k5.symm Q5
    replace M := hS.mo _ N_k4 M
    clear hS
    refine w_nil (xn_then (w_ret (xr_then ?_)))
    exact w_ret1 _ (.agg ((vBad (2)).cells).toArray) rfl ⟨k4, rfl, (run_row Q4 28 0 10 ((vBad (2)).cells) rfl Tryz.underlying28 rfl sz28)⟩ ⟨vrt (x := (vBad (2))) rfl (by simp [ifV, mayV, hf0p, hf1, hf2]), M⟩
  | false =>
   refine w_condF rfl (w_skip (xn_then (w_seq (w_seq (w_reg ?_)))))
   refine wl_l 28 (.tmp 8) (pt k5 0) (.agg (y.cells).toArray) (run_row Q5 28 0 10 (y.cells) rfl Tryz.underlying28 rfl sz28) ?_
   cases hf2 : ckv y with
   | true =>
    refine wl_call 13 [(.tmp 19)] _ [.agg (y.cells).toArray] (.int .i64 (0)) rfl rfl (fun _ _ => by kernel_rfl) (check_t hf2 hy _) rfl ?_
    intro u8 hq
    replace Q1 := Q1.mo hq
    replace Q2 := Q2.mo hq
    replace Q3 := Q3.mo hq
    replace Q4 := Q4.mo hq
    replace Q5 := Q5.mo hq
    replace M := M.trans hq
    clear hq
    refine wl_b .neq 32 (.tmp 20) (.const (.int .i64 (0))) (.int .i64 (0)) (.int .i64 (0)) (.bool false) (ne34 (r := true) rfl _ _ _) ?_
    refine w_nil (xn_then (w_condF rfl (w_skip (xn_then (w_seq (w_reg ?_))))))
    refine wl_l 28 (.tmp 8) (pt k5 0) (.agg (y.cells).toArray) (run_row Q5 28 0 10 (y.cells) rfl Tryz.underlying28 rfl sz28) ?_
    refine wl_st 28 (.tmp 6) (.tmp 23) k4 0 ((y.cells).toArray) _ (y.cells) Q4 rfl rfl rfl rfl rfl sz28 rfl rfl rfl ?_
    intro u9 hS Qn
    replace Q4 := Qn
    clear Qn
    replace Q1 := hS.other _ _ ne_k1_k4 Q1
    replace Q2 := hS.other _ _ ne_k2_k4 Q2
    replace Q3 := hS.other _ _ ne_k3_k4 Q3
    replace Q5 := hS.other _ _ ne_k4_k5.symm Q5
    replace M := hS.mo _ N_k4 M
    clear hS
    refine w_nil (xn_then (w_ret ?_))
    exact w_ret1 _ (.agg (y.cells).toArray) rfl ⟨k4, rfl, (run_row Q4 28 0 10 (y.cells) rfl Tryz.underlying28 rfl sz28)⟩ ⟨vrt (x := y) rfl (by simp [ifV, mayV, hf0p, hf1, hf2]), M⟩
   | false =>
    refine wl_call 13 [(.tmp 19)] _ [.agg (y.cells).toArray] (.int .i64 (1)) rfl rfl (fun _ _ => by kernel_rfl) (check_f hf2 hy _) rfl ?_
    intro u8 hq
    replace Q1 := Q1.mo hq
    replace Q2 := Q2.mo hq
    replace Q3 := Q3.mo hq
    replace Q4 := Q4.mo hq
    replace Q5 := Q5.mo hq
    replace M := M.trans hq
    clear hq
    refine wl_b .neq 32 (.tmp 20) (.const (.int .i64 (0))) (.int .i64 (1)) (.int .i64 (0)) (.bool true) (ne34 (r := false) rfl _ _ _) ?_
    refine w_nil (xn_then (w_condT rfl (w_seq (w_reg ?_))))
    refine wl_call 15 [(.const (.int .i64 (2)))] _ [.int .i64 (2)] (.agg ((vBad (2)).cells).toArray) rfl rfl (fun _ _ => by kernel_rfl) (bad_n (2) _) rfl ?_
    intro u9 hq
    replace Q1 := Q1.mo hq
    replace Q2 := Q2.mo hq
    replace Q3 := Q3.mo hq
    replace Q4 := Q4.mo hq
    replace Q5 := Q5.mo hq
    replace M := M.trans hq
    clear hq
    refine wl_st 28 (.tmp 6) (.tmp 22) k4 0 (((vBad (2)).cells).toArray) _ ((vBad (2)).cells) Q4 rfl rfl rfl rfl rfl sz28 rfl rfl rfl ?_
    intro u10 hS Qn
    replace Q4 := Qn
    clear Qn
    replace Q1 := hS.other _ _ ne_k1_k4 Q1
    replace Q2 := hS.other _ _ ne_k2_k4 Q2
    replace Q3 := hS.other _ _ ne_k3_k4 Q3
    replace Q5 := hS.other _ _ ne_k4_k5.symm Q5
    replace M := hS.mo _ N_k4 M
    clear hS
    refine w_nil (xn_then (w_ret (xr_then ?_)))
    exact w_ret1 _ (.agg ((vBad (2)).cells).toArray) rfl ⟨k4, rfl, (run_row Q4 28 0 10 ((vBad (2)).cells) rfl Tryz.underlying28 rfl sz28)⟩ ⟨vrt (x := (vBad (2))) rfl (by simp [ifV, mayV, hf0p, hf1, hf2]), M⟩
 | false =>
  have hf0p := of_decide_eq_false hf0
  refine wl_b .neq 3 (.tmp 11) (.const (.int .i64 (0))) (.int .i64 (askK (2) c)) (.int .i64 (0)) (.bool true) (ne3 hf0 _ _ _) ?_
  refine w_nil (xn_then (w_condT rfl (w_seq (w_reg ?_))))
  refine wl_m (.tmp 7) (.int .i64 (askK (2) c)) ?_
  refine wl_call 15 [(.tmp 13)] _ [.int .i64 (askK (2) c)] (.agg ((vBad (askK (2) c)).cells).toArray) rfl rfl (fun _ _ => by kernel_rfl) (bad_n (askK (2) c) _) rfl ?_
  intro u6 hq
  replace Q1 := Q1.mo hq
  replace Q2 := Q2.mo hq
  replace Q3 := Q3.mo hq
  replace Q4 := Q4.mo hq
  replace M := M.trans hq
  clear hq
  refine wl_st 28 (.tmp 6) (.tmp 14) k4 0 (((vBad (askK (2) c)).cells).toArray) _ ((vBad (askK (2) c)).cells) Q4 rfl rfl rfl rfl rfl sz28 rfl rfl rfl ?_
  intro u7 hS Qn
  replace Q4 := Qn
  clear Qn
  replace Q1 := hS.other _ _ ne_k1_k4 Q1
  replace Q2 := hS.other _ _ ne_k2_k4 Q2
  replace Q3 := hS.other _ _ ne_k3_k4 Q3
  replace M := hS.mo _ N_k4 M
  clear hS
  refine w_nil (xn_then (w_ret (xr_then ?_)))
  exact w_ret1 _ (.agg ((vBad (askK (2) c)).cells).toArray) rfl ⟨k4, rfl, (run_row Q4 28 0 10 ((vBad (askK (2) c)).cells) rfl Tryz.underlying28 rfl sz28)⟩ ⟨vrt (x := (vBad (askK (2) c))) rfl (by simp [ifV, hf0p]), M⟩
theorem blk_n (x : VL) (w : World) (hx : x.ok) : Calls Tryz.prog 21 #[x.v] w fun e9 w' => e9 = .returned (blkV x).v ∧ Mo w w' := by
 refine w_enter 17 Tryz.func21 Tryz.ntmps21 rfl rfl ?_
 have M : Mo w w := Mo.refl _
 refine w_seq (w_reg ?_)
 refine wl_box 28 (.tmp 0) _ (((x.cells).toArray)) rfl rfl (fun _ => by kernel_rfl) rfl ?_
 intro k1 u1 hk hz hq Q1
 have N_k1 : w.heap.size ≤ k1 := by have := M.size; omega
 replace M := M.trans hq
 clear hk hz hq
 refine wl_alloc 28 #[.int .i64 0, .bool false, .int .u64 0, .int .u64 0, .int .u64 0, .int .u64 0, .int .i64 0, .bool false, .string ⟨#[]⟩, .int .i64 0] rfl (fun _ => by kernel_rfl) rfl ?_
 intro k2 u2 hk hz hq Q2
 have ne_k1_k2 : k1 ≠ k2 := by have := Q1.lt; omega
 have N_k2 : w.heap.size ≤ k2 := by have := M.size; omega
 replace Q1 := Q1.mo hq
 replace M := M.trans hq
 clear hk hz hq
 refine w_nil (xn_then (w_seq (w_block (w_seq (w_reg ?_)))))
 refine wl_l 28 (.tmp 1) (pt k1 0) (.agg (x.cells).toArray) (run_row Q1 28 0 10 (x.cells) rfl Tryz.underlying28 rfl sz28) ?_
 cases hf0 : ckv x with
 | true =>
  refine wl_call 13 [(.tmp 4)] _ [.agg (x.cells).toArray] (.int .i64 (0)) rfl rfl (fun _ _ => by kernel_rfl) (check_t hf0 hx _) rfl ?_
  intro u3 hq
  replace Q1 := Q1.mo hq
  replace Q2 := Q2.mo hq
  replace M := M.trans hq
  clear hq
  refine wl_b .neq 32 (.tmp 5) (.const (.int .i64 (0))) (.int .i64 (0)) (.int .i64 (0)) (.bool false) (ne34 (r := true) rfl _ _ _) ?_
  refine wl_m (.tmp 6) (.bool false) ?_
  refine w_nil (xn_then (w_condF rfl (w_seq (w_reg ?_))))
  refine wl_f 28 0 (.tmp 1) (pt k1 0) (pt k1 0) ?_
  refine wl_l 3 (.tmp 9) (pt k1 0) (.int .i64 (x.k)) (run_one Q1 3 0 rfl Tryz.underlying3 rfl) ?_
  cases hf1 : decide (x.k = 4) with
  | true =>
   have hf1p := of_decide_eq_true hf1
   refine wl_b .eql 3 (.tmp 10) (.const (.int .i64 (4))) (.int .i64 (x.k)) (.int .i64 (4)) (.bool true) (eq3 hf1 _ _ _) ?_
   refine wl_m (.tmp 11) (.bool true) ?_
   refine w_nil (xn_then (w_condT rfl (w_seq (w_reg ?_))))
   refine wl_l 28 (.tmp 1) (pt k1 0) (.agg (x.cells).toArray) (run_row Q1 28 0 10 (x.cells) rfl Tryz.underlying28 rfl sz28) ?_
   refine wl_st 28 (.tmp 2) (.tmp 12) k2 0 ((x.cells).toArray) _ (x.cells) Q2 rfl rfl rfl rfl rfl sz28 rfl rfl rfl ?_
   intro u4 hS Qn
   replace Q2 := Qn
   clear Qn
   replace Q1 := hS.other _ _ ne_k1_k2 Q1
   replace M := hS.mo _ N_k2 M
   clear hS
   refine w_nil (xn_then (w_ret (xr_blk (xr_then ?_))))
   exact w_ret1 _ (.agg (x.cells).toArray) rfl ⟨k2, rfl, (run_row Q2 28 0 10 (x.cells) rfl Tryz.underlying28 rfl sz28)⟩ ⟨vrt (x := x) rfl (by simp [blkV, hf0, hf1p]), M⟩
  | false =>
   have hf1p := of_decide_eq_false hf1
   refine wl_b .eql 3 (.tmp 10) (.const (.int .i64 (4))) (.int .i64 (x.k)) (.int .i64 (4)) (.bool false) (eq3 hf1 _ _ _) ?_
   refine wl_m (.tmp 11) (.bool false) ?_
   refine w_nil (xn_then (w_condF rfl (w_skip (xn_blk (xn_then (w_seq (w_reg ?_)))))))
   refine wl_f 28 0 (.tmp 1) (pt k1 0) (pt k1 0) ?_
   refine wl_l 3 (.tmp 13) (pt k1 0) (.int .i64 (x.k)) (run_one Q1 3 0 rfl Tryz.underlying3 rfl) ?_
   cases hf2 : decide (x.k = 0) with
   | true =>
    have hf2p := of_decide_eq_true hf2
    refine wl_b .eql 3 (.tmp 14) (.const (.int .i64 (0))) (.int .i64 (x.k)) (.int .i64 (0)) (.bool true) (eq3 hf2 _ _ _) ?_
    refine wl_call 33 [(.tmp 15)] _ [.bool true] (.agg ((vFl true).cells).toArray) rfl rfl (fun _ _ => by kernel_rfl) (flag_n true _) rfl ?_
    intro u4 hq
    replace Q1 := Q1.mo hq
    replace Q2 := Q2.mo hq
    replace M := M.trans hq
    clear hq
    refine wl_st 28 (.tmp 2) (.tmp 16) k2 0 (((vFl true).cells).toArray) _ ((vFl true).cells) Q2 rfl rfl rfl rfl rfl sz28 rfl rfl rfl ?_
    intro u5 hS Qn
    replace Q2 := Qn
    clear Qn
    replace Q1 := hS.other _ _ ne_k1_k2 Q1
    replace M := hS.mo _ N_k2 M
    clear hS
    refine w_nil (xn_then (w_ret ?_))
    exact w_ret1 _ (.agg ((vFl true).cells).toArray) rfl ⟨k2, rfl, (run_row Q2 28 0 10 ((vFl true).cells) rfl Tryz.underlying28 rfl sz28)⟩ ⟨vrt (x := (vFl true)) rfl (by simp [blkV, hf0, hf2p]), M⟩
   | false =>
    have hf2p := of_decide_eq_false hf2
    refine wl_b .eql 3 (.tmp 14) (.const (.int .i64 (0))) (.int .i64 (x.k)) (.int .i64 (0)) (.bool false) (eq3 hf2 _ _ _) ?_
    refine wl_call 33 [(.tmp 15)] _ [.bool false] (.agg ((vFl false).cells).toArray) rfl rfl (fun _ _ => by kernel_rfl) (flag_n false _) rfl ?_
    intro u4 hq
    replace Q1 := Q1.mo hq
    replace Q2 := Q2.mo hq
    replace M := M.trans hq
    clear hq
    refine wl_st 28 (.tmp 2) (.tmp 16) k2 0 (((vFl false).cells).toArray) _ ((vFl false).cells) Q2 rfl rfl rfl rfl rfl sz28 rfl rfl rfl ?_
    intro u5 hS Qn
    replace Q2 := Qn
    clear Qn
    replace Q1 := hS.other _ _ ne_k1_k2 Q1
    replace M := hS.mo _ N_k2 M
    clear hS
    refine w_nil (xn_then (w_ret ?_))
    exact w_ret1 _ (.agg ((vFl false).cells).toArray) rfl ⟨k2, rfl, (run_row Q2 28 0 10 ((vFl false).cells) rfl Tryz.underlying28 rfl sz28)⟩ ⟨vrt (x := (vFl false)) rfl (by simp [blkV, hf0, hf1p, hf2p]), M⟩
 | false =>
  refine wl_call 13 [(.tmp 4)] _ [.agg (x.cells).toArray] (.int .i64 (1)) rfl rfl (fun _ _ => by kernel_rfl) (check_f hf0 hx _) rfl ?_
  intro u3 hq
  replace Q1 := Q1.mo hq
  replace Q2 := Q2.mo hq
  replace M := M.trans hq
  clear hq
  refine wl_b .neq 32 (.tmp 5) (.const (.int .i64 (0))) (.int .i64 (1)) (.int .i64 (0)) (.bool true) (ne34 (r := false) rfl _ _ _) ?_
  refine wl_m (.tmp 6) (.bool true) ?_
  refine w_nil (xn_then (w_condT rfl (w_seq (w_reg ?_))))
  refine wl_call 15 [(.const (.int .i64 (2)))] _ [.int .i64 (2)] (.agg ((vBad (2)).cells).toArray) rfl rfl (fun _ _ => by kernel_rfl) (bad_n (2) _) rfl ?_
  intro u4 hq
  replace Q1 := Q1.mo hq
  replace Q2 := Q2.mo hq
  replace M := M.trans hq
  clear hq
  refine wl_st 28 (.tmp 2) (.tmp 7) k2 0 (((vBad (2)).cells).toArray) _ ((vBad (2)).cells) Q2 rfl rfl rfl rfl rfl sz28 rfl rfl rfl ?_
  intro u5 hS Qn
  replace Q2 := Qn
  clear Qn
  replace Q1 := hS.other _ _ ne_k1_k2 Q1
  replace M := hS.mo _ N_k2 M
  clear hS
  refine w_nil (xn_then (w_ret (xr_blk (xr_then ?_))))
  exact w_ret1 _ (.agg ((vBad (2)).cells).toArray) rfl ⟨k2, rfl, (run_row Q2 28 0 10 ((vBad (2)).cells) rfl Tryz.underlying28 rfl sz28)⟩ ⟨vrt (x := (vBad (2))) rfl (by simp [blkV, hf0]), M⟩
theorem fit_n (x : VL) (tk ts p : Int) (w : World) (hx : x.ok) : Calls Tryz.prog 29 #[x.v, .agg #[.int .i64 tk, .int .i64 ts], .int .i64 p] w fun e9 w' => e9 = .returned (fitV x tk ts p).v ∧ Mo w w' := by
 refine w_enter 37 Tryz.func29 Tryz.ntmps29 rfl rfl ?_
 have M : Mo w w := Mo.refl _
 refine w_seq (w_reg ?_)
 refine wl_box 28 (.tmp 0) _ (((x.cells).toArray)) rfl rfl (fun _ => by kernel_rfl) rfl ?_
 intro k1 u1 hk hz hq Q1
 have N_k1 : w.heap.size ≤ k1 := by have := M.size; omega
 replace M := M.trans hq
 clear hk hz hq
 refine wl_box 42 (.tmp 1) _ (#[.int .i64 tk, .int .i64 ts]) rfl rfl (fun _ => by kernel_rfl) rfl ?_
 intro k2 u2 hk hz hq Q2
 have ne_k1_k2 : k1 ≠ k2 := by have := Q1.lt; omega
 have N_k2 : w.heap.size ≤ k2 := by have := M.size; omega
 replace Q1 := Q1.mo hq
 replace M := M.trans hq
 clear hk hz hq
 refine wl_alloc 28 #[.int .i64 0, .bool false, .int .u64 0, .int .u64 0, .int .u64 0, .int .u64 0, .int .i64 0, .bool false, .string ⟨#[]⟩, .int .i64 0] rfl (fun _ => by kernel_rfl) rfl ?_
 intro k3 u3 hk hz hq Q3
 have ne_k1_k3 : k1 ≠ k3 := by have := Q1.lt; omega
 have ne_k2_k3 : k2 ≠ k3 := by have := Q2.lt; omega
 have N_k3 : w.heap.size ≤ k3 := by have := M.size; omega
 replace Q1 := Q1.mo hq
 replace Q2 := Q2.mo hq
 replace M := M.trans hq
 clear hk hz hq
 refine w_nil (xn_then (w_seq (w_block (w_seq (w_reg ?_)))))
 refine wl_l 28 (.tmp 3) (pt k1 0) (.agg (x.cells).toArray) (run_row Q1 28 0 10 (x.cells) rfl Tryz.underlying28 rfl sz28) ?_
 cases hf0 : ckv x with
 | true =>
  refine wl_call 13 [(.tmp 8)] _ [.agg (x.cells).toArray] (.int .i64 (0)) rfl rfl (fun _ _ => by kernel_rfl) (check_t hf0 hx _) rfl ?_
  intro u4 hq
  replace Q1 := Q1.mo hq
  replace Q2 := Q2.mo hq
  replace Q3 := Q3.mo hq
  replace M := M.trans hq
  clear hq
  refine wl_b .neq 32 (.tmp 9) (.const (.int .i64 (0))) (.int .i64 (0)) (.int .i64 (0)) (.bool false) (ne34 (r := true) rfl _ _ _) ?_
  refine wl_m (.tmp 10) (.bool false) ?_
  refine w_nil (xn_then (w_condF rfl (w_seq (w_seq (w_reg ?_)))))
  refine wl_f 28 0 (.tmp 3) (pt k1 0) (pt k1 0) ?_
  refine wl_l 3 (.tmp 13) (pt k1 0) (.int .i64 (x.k)) (run_one Q1 3 0 rfl Tryz.underlying3 rfl) ?_
  cases hf1 : decide (x.k = 4) with
  | true =>
   have hf1p := of_decide_eq_true hf1
   refine wl_b .eql 3 (.tmp 14) (.const (.int .i64 (4))) (.int .i64 (x.k)) (.int .i64 (4)) (.bool true) (eq3 hf1 _ _ _) ?_
   refine wl_m (.tmp 15) (.bool true) ?_
   refine w_nil (xn_then (w_condT rfl (w_skip (xn_then (w_condT rfl (w_seq (w_reg ?_)))))))
   refine wl_l 28 (.tmp 3) (pt k1 0) (.agg (x.cells).toArray) (run_row Q1 28 0 10 (x.cells) rfl Tryz.underlying28 rfl sz28) ?_
   refine wl_st 28 (.tmp 6) (.tmp 19) k3 0 ((x.cells).toArray) _ (x.cells) Q3 rfl rfl rfl rfl rfl sz28 rfl rfl rfl ?_
   intro u5 hS Qn
   replace Q3 := Qn
   clear Qn
   replace Q1 := hS.other _ _ ne_k1_k3 Q1
   replace Q2 := hS.other _ _ ne_k2_k3 Q2
   replace M := hS.mo _ N_k3 M
   clear hS
   refine w_nil (xn_then (w_ret (xr_blk (xr_then ?_))))
   exact w_ret1 _ (.agg (x.cells).toArray) rfl ⟨k3, rfl, (run_row Q3 28 0 10 (x.cells) rfl Tryz.underlying28 rfl sz28)⟩ ⟨vrt (x := x) rfl (by simp [fitV, hf0, if_pos hf1p]), M⟩
  | false =>
   have hf1p := of_decide_eq_false hf1
   refine wl_b .eql 3 (.tmp 14) (.const (.int .i64 (4))) (.int .i64 (x.k)) (.int .i64 (4)) (.bool false) (eq3 hf1 _ _ _) ?_
   refine wl_m (.tmp 15) (.bool false) ?_
   refine w_nil (xn_then (w_condF rfl (w_reg ?_)))
   refine wl_f 28 0 (.tmp 3) (pt k1 0) (pt k1 0) ?_
   refine wl_l 3 (.tmp 16) (pt k1 0) (.int .i64 (x.k)) (run_one Q1 3 0 rfl Tryz.underlying3 rfl) ?_
   cases hf2 : decide (x.k = 0) with
   | true =>
    have hf2p := of_decide_eq_true hf2
    refine wl_b .eql 3 (.tmp 17) (.const (.int .i64 (0))) (.int .i64 (x.k)) (.int .i64 (0)) (.bool true) (eq3 hf2 _ _ _) ?_
    refine wl_m (.tmp 18) (.bool true) ?_
    refine w_nil (xn_then (w_condT rfl (w_seq (w_reg ?_))))
    refine wl_l 28 (.tmp 3) (pt k1 0) (.agg (x.cells).toArray) (run_row Q1 28 0 10 (x.cells) rfl Tryz.underlying28 rfl sz28) ?_
    refine wl_st 28 (.tmp 6) (.tmp 19) k3 0 ((x.cells).toArray) _ (x.cells) Q3 rfl rfl rfl rfl rfl sz28 rfl rfl rfl ?_
    intro u5 hS Qn
    replace Q3 := Qn
    clear Qn
    replace Q1 := hS.other _ _ ne_k1_k3 Q1
    replace Q2 := hS.other _ _ ne_k2_k3 Q2
    replace M := hS.mo _ N_k3 M
    clear hS
    refine w_nil (xn_then (w_ret (xr_blk (xr_then ?_))))
    exact w_ret1 _ (.agg (x.cells).toArray) rfl ⟨k3, rfl, (run_row Q3 28 0 10 (x.cells) rfl Tryz.underlying28 rfl sz28)⟩ ⟨vrt (x := x) rfl (by simp [fitV, hf0, if_pos hf2p]), M⟩
   | false =>
    have hf2p := of_decide_eq_false hf2
    refine wl_b .eql 3 (.tmp 17) (.const (.int .i64 (0))) (.int .i64 (x.k)) (.int .i64 (0)) (.bool false) (eq3 hf2 _ _ _) ?_
    refine wl_m (.tmp 18) (.bool false) ?_
    refine w_nil (xn_then (w_condF rfl (w_seq (w_reg ?_))))
    refine wl_f 28 0 (.tmp 3) (pt k1 0) (pt k1 0) ?_
    refine wl_l 3 (.tmp 21) (pt k1 0) (.int .i64 (x.k)) (run_one Q1 3 0 rfl Tryz.underlying3 rfl) ?_
    refine wl_f 42 0 (.tmp 4) (pt k2 0) (pt k2 0) ?_
    refine wl_l 3 (.tmp 23) (pt k2 0) (.int .i64 (tk)) (run_one Q2 3 0 rfl Tryz.underlying3 rfl) ?_
    cases hf3 : decide (x.k = tk) with
    | true =>
     have hf3p := of_decide_eq_true hf3
     refine wl_b .neq 3 (.tmp 22) (.tmp 24) (.int .i64 (x.k)) (.int .i64 (tk)) (.bool false) (ne3 hf3 _ _ _) ?_
     refine wl_m (.tmp 25) (.bool false) ?_
     refine w_nil (xn_then (w_condF rfl (w_seq (w_reg ?_))))
     refine wl_f 28 0 (.tmp 3) (pt k1 0) (pt k1 0) ?_
     refine wl_l 3 (.tmp 28) (pt k1 0) (.int .i64 (x.k)) (run_one Q1 3 0 rfl Tryz.underlying3 rfl) ?_
     cases hf4 : decide (x.k = 1) with
     | true =>
      have hf4p := of_decide_eq_true hf4
      refine wl_b .eql 3 (.tmp 29) (.const (.int .i64 (1))) (.int .i64 (x.k)) (.int .i64 (1)) (.bool true) (eq3 hf4 _ _ _) ?_
      refine wl_m (.tmp 30) (.bool true) ?_
      refine w_nil (xn_then (w_condT rfl (w_seq (w_reg ?_))))
      refine wl_l 28 (.tmp 3) (pt k1 0) (.agg (x.cells).toArray) (run_row Q1 28 0 10 (x.cells) rfl Tryz.underlying28 rfl sz28) ?_
      refine wl_f 42 1 (.tmp 4) (pt k2 0) (pt k2 1) ?_
      refine wl_l 3 (.tmp 32) (pt k2 1) (.int .i64 (ts)) (run_one Q2 3 1 rfl Tryz.underlying3 rfl) ?_
      refine wl_m (.tmp 2) (.int .i64 (p)) ?_
      refine wl_call 23 [(.tmp 31), (.tmp 33), (.tmp 34)] _ [.agg (x.cells).toArray, .int .i64 (ts), .int .i64 (p)] (.agg ((rndV x ts p).cells).toArray) rfl rfl (fun _ _ => by kernel_rfl) (rnd_n x ts p _ hx) rfl ?_
      intro u5 hq
      replace Q1 := Q1.mo hq
      replace Q2 := Q2.mo hq
      replace Q3 := Q3.mo hq
      replace M := M.trans hq
      clear hq
      refine wl_st 28 (.tmp 6) (.tmp 35) k3 0 (((rndV x ts p).cells).toArray) _ ((rndV x ts p).cells) Q3 rfl rfl rfl rfl rfl sz28 rfl rfl rfl ?_
      intro u6 hS Qn
      replace Q3 := Qn
      clear Qn
      replace Q1 := hS.other _ _ ne_k1_k3 Q1
      replace Q2 := hS.other _ _ ne_k2_k3 Q2
      replace M := hS.mo _ N_k3 M
      clear hS
      refine w_nil (xn_then (w_ret (xr_blk (xr_then ?_))))
      exact w_ret1 _ (.agg ((rndV x ts p).cells).toArray) rfl ⟨k3, rfl, (run_row Q3 28 0 10 ((rndV x ts p).cells) rfl Tryz.underlying28 rfl sz28)⟩ ⟨vrt (x := (rndV x ts p)) rfl (by simp [fitV, hf0, if_neg hf1p, if_neg hf2p, if_pos hf3p, if_pos hf4p]), M⟩
     | false =>
      have hf4p := of_decide_eq_false hf4
      refine wl_b .eql 3 (.tmp 29) (.const (.int .i64 (1))) (.int .i64 (x.k)) (.int .i64 (1)) (.bool false) (eq3 hf4 _ _ _) ?_
      refine wl_m (.tmp 30) (.bool false) ?_
      refine w_nil (xn_then (w_condF rfl (w_skip (xn_blk (xn_then (w_seq (w_reg ?_)))))))
      refine wl_l 28 (.tmp 3) (pt k1 0) (.agg (x.cells).toArray) (run_row Q1 28 0 10 (x.cells) rfl Tryz.underlying28 rfl sz28) ?_
      refine wl_st 28 (.tmp 6) (.tmp 36) k3 0 ((x.cells).toArray) _ (x.cells) Q3 rfl rfl rfl rfl rfl sz28 rfl rfl rfl ?_
      intro u5 hS Qn
      replace Q3 := Qn
      clear Qn
      replace Q1 := hS.other _ _ ne_k1_k3 Q1
      replace Q2 := hS.other _ _ ne_k2_k3 Q2
      replace M := hS.mo _ N_k3 M
      clear hS
      refine w_nil (xn_then (w_ret ?_))
      exact w_ret1 _ (.agg (x.cells).toArray) rfl ⟨k3, rfl, (run_row Q3 28 0 10 (x.cells) rfl Tryz.underlying28 rfl sz28)⟩ ⟨vrt (x := x) rfl (by simp [fitV, hf0, if_pos hf3p, if_neg hf4p]), M⟩
    | false =>
     have hf3p := of_decide_eq_false hf3
     refine wl_b .neq 3 (.tmp 22) (.tmp 24) (.int .i64 (x.k)) (.int .i64 (tk)) (.bool true) (ne3 hf3 _ _ _) ?_
     refine wl_m (.tmp 25) (.bool true) ?_
     refine w_nil (xn_then (w_condT rfl (w_seq (w_reg ?_))))
     refine wl_call 15 [(.const (.int .i64 (2)))] _ [.int .i64 (2)] (.agg ((vBad (2)).cells).toArray) rfl rfl (fun _ _ => by kernel_rfl) (bad_n (2) _) rfl ?_
     intro u5 hq
     replace Q1 := Q1.mo hq
     replace Q2 := Q2.mo hq
     replace Q3 := Q3.mo hq
     replace M := M.trans hq
     clear hq
     refine wl_st 28 (.tmp 6) (.tmp 26) k3 0 (((vBad (2)).cells).toArray) _ ((vBad (2)).cells) Q3 rfl rfl rfl rfl rfl sz28 rfl rfl rfl ?_
     intro u6 hS Qn
     replace Q3 := Qn
     clear Qn
     replace Q1 := hS.other _ _ ne_k1_k3 Q1
     replace Q2 := hS.other _ _ ne_k2_k3 Q2
     replace M := hS.mo _ N_k3 M
     clear hS
     refine w_nil (xn_then (w_ret (xr_blk (xr_then ?_))))
     exact w_ret1 _ (.agg ((vBad (2)).cells).toArray) rfl ⟨k3, rfl, (run_row Q3 28 0 10 ((vBad (2)).cells) rfl Tryz.underlying28 rfl sz28)⟩ ⟨vrt (x := (vBad (2))) rfl (by simp [fitV, hf0, if_neg hf1p, if_neg hf2p, if_neg hf3p]), M⟩
 | false =>
  refine wl_call 13 [(.tmp 8)] _ [.agg (x.cells).toArray] (.int .i64 (1)) rfl rfl (fun _ _ => by kernel_rfl) (check_f hf0 hx _) rfl ?_
  intro u4 hq
  replace Q1 := Q1.mo hq
  replace Q2 := Q2.mo hq
  replace Q3 := Q3.mo hq
  replace M := M.trans hq
  clear hq
  refine wl_b .neq 32 (.tmp 9) (.const (.int .i64 (0))) (.int .i64 (1)) (.int .i64 (0)) (.bool true) (ne34 (r := false) rfl _ _ _) ?_
  refine wl_m (.tmp 10) (.bool true) ?_
  refine w_nil (xn_then (w_condT rfl (w_seq (w_reg ?_))))
  refine wl_call 15 [(.const (.int .i64 (2)))] _ [.int .i64 (2)] (.agg ((vBad (2)).cells).toArray) rfl rfl (fun _ _ => by kernel_rfl) (bad_n (2) _) rfl ?_
  intro u5 hq
  replace Q1 := Q1.mo hq
  replace Q2 := Q2.mo hq
  replace Q3 := Q3.mo hq
  replace M := M.trans hq
  clear hq
  refine wl_st 28 (.tmp 6) (.tmp 11) k3 0 (((vBad (2)).cells).toArray) _ ((vBad (2)).cells) Q3 rfl rfl rfl rfl rfl sz28 rfl rfl rfl ?_
  intro u6 hS Qn
  replace Q3 := Qn
  clear Qn
  replace Q1 := hS.other _ _ ne_k1_k3 Q1
  replace Q2 := hS.other _ _ ne_k2_k3 Q2
  replace M := hS.mo _ N_k3 M
  clear hS
  refine w_nil (xn_then (w_ret (xr_blk (xr_then ?_))))
  exact w_ret1 _ (.agg ((vBad (2)).cells).toArray) rfl ⟨k3, rfl, (run_row Q3 28 0 10 ((vBad (2)).cells) rfl Tryz.underlying28 rfl sz28)⟩ ⟨vrt (x := (vBad (2))) rfl (by simp [fitV, hf0]), M⟩
end Go.Proofs.YtogomodbcjpfiaaGreatDoor
namespace Go.Proofs.YtogomodbcjpfiaaGreatDoor
open Go.RowKit
theorem ok_bad (e : Int) : (vBad e).ok := ok_0 _ _ _ _ _ _
theorem ok_fl (f : Bool) : (vFl f).ok := ok_0 _ _ _ _ _ _
def DR.good (r : DR) : Prop := 0 ≤ r.n ∧ r.n < MM ∧ (r.e = 0 → ck r.b r.n r.s = 0)
theorem good_er {c : Int} (h : c ≠ 0) : (erR c).good := ⟨by show (0 : Int) ≤ 0; decide, by show (0 : Int) < MM; decide, fun e => absurd e h⟩
theorem good_fz {V S : Int} (hS : sc S = true) : (fzR V S).good := by
 unfold fzR
 split
 next h => exact ⟨ab_nn V, h, fun _ => ck_dz hS⟩
 next => exact good_er (by decide)
theorem good_fx {b : Bool} {V S : Int} (h0 : 0 ≤ V) (hS : sc S = true) : (fxR b V S).good := by
 unfold fxR
 split
 next h =>
  refine ⟨h0, h, fun _ => ?_⟩
  show ck (b && !decide (V = 0)) V S = 0
  unfold ck
  rw [hS]
  by_cases hv : V = 0 <;> simp [hv]
 next => exact good_er (by decide)
theorem sc_max {s t : Int} (h : sc s = true) (k : sc t = true) : sc (max s t) = true := by
 have a := sc_iff.1 h
 have b := sc_iff.1 k
 exact sc_iff.2 ⟨by omega, by omega⟩
theorem sc_min {s t : Int} (h : sc s = true) (k : sc t = true) : sc (min (s + t) 18) = true := by
 have a := sc_iff.1 h
 have b := sc_iff.1 k
 exact sc_iff.2 ⟨by omega, by omega⟩
theorem rdV_nn {b : Bool} {X f S p : Int} (h : 0 ≤ X) : 0 ≤ rdV b X f S p := by
 unfold rdV
 split
 ·exact Int.mul_nonneg h (Int.le_of_lt (pw_pos _))
 ·exact ro_nn h
theorem good_add {b c : Bool} {n s m t : Int} (h1 : ck b n s = 0) (h2 : ck c m t = 0) : (addR b n s c m t).good := good_fz (sc_max (ck_s h1) (ck_s h2))
theorem good_sub {b c : Bool} {n s m t : Int} (h1 : ck b n s = 0) (h2 : ck c m t = 0) : (subR b n s c m t).good := good_fz (sc_max (ck_s h1) (ck_s h2))
theorem good_mul {b c : Bool} {n s m t : Int} (hn : 0 ≤ n) (hm : 0 ≤ m) (h1 : ck b n s = 0) (h2 : ck c m t = 0) : (mulR b n s c m t).good := good_fx (rdV_nn (Int.mul_nonneg hn hm)) (sc_min (ck_s h1) (ck_s h2))
theorem good_neg {b : Bool} {n s : Int} (h0 : 0 ≤ n) (h : n < MM) (h1 : ck b n s = 0) : (negR b n s).good := by
 refine ⟨h0, h, fun _ => ?_⟩
 show ck (!b && !decide (n = 0)) n s = 0
 unfold ck
 rw [ck_s h1]
 by_cases hv : n = 0 <;> simp [hv]
theorem good_rnd {b : Bool} {n s S p : Int} (h0 : 0 ≤ n) : (rndR b n s S p).good := by
 unfold rndR
 split
 next h =>
  split
  ·exact good_fx (rdV_nn h0) h
  ·exact good_er (by decide)
 next => exact good_er (by decide)
theorem num_good {r : DR} (h : r.good) : (numV r).ok ∧ ckv (numV r) = true := by
 unfold numV
 split
 next e => exact ⟨⟨h.1, h.2.1⟩, ckv_vNu (h.2.2 e)⟩
 next =>
  split
  ·exact ⟨ok_bad _, ckv_vBad _⟩
  ·exact ⟨ok_bad _, ckv_vBad _⟩
theorem fit_bad (e : Int) : (vBad e).fit := ⟨ok_bad e, ckv_vBad e⟩
theorem fit_fl (f : Bool) : (vFl f).fit := ⟨ok_fl f, ckv_vFl f⟩
theorem fit_ord (op o : Int) : (ordV op o).fit := by
 unfold ordV
 split; · exact fit_fl _
 split; · exact fit_fl _
 split; · exact fit_fl _
 split; · exact fit_fl _
 split; · exact fit_fl _
 split; · exact fit_fl _
 exact fit_bad _
theorem fit_opF (op : Int) (f g : Bool) : (opF op f g).fit := by
 unfold opF
 split; · exact fit_fl _
 split; · exact fit_fl _
 exact fit_bad _
theorem fit_opN (op : Int) {b c : Bool} {n s m t : Int} (hn : 0 ≤ n) (hm : 0 ≤ m) (h1 : ck b n s = 0) (h2 : ck c m t = 0) : (opN op b n s c m t).fit := by
 unfold opN
 split; · exact num_good (good_add h1 h2)
 split; · exact num_good (good_sub h1 h2)
 split; · exact num_good (good_mul hn hm h1 h2)
 exact fit_ord _ _
theorem fit_op (op : Int) {x y : VL} (hx : x.ok) (hy : y.ok) : (opV op x y).fit := by
 unfold opV
 split
 next a =>
  split
  next hk =>
   split
   next k => exact fit_opN op hx.1 hy.1 (ckv_num hx (ask_0 hx (ask2_1 a)).1 k).2 (ckv_num hy (ask_0 hy (ask2_2 a)).1 (hk ▸ k)).2
   next =>
    split; · exact fit_fl _
    split; · exact fit_fl _
    split; · exact fit_opF _ _ _
    exact fit_bad _
  next => exact fit_bad _
 next => exact fit_bad _
theorem fit_neg {x : VL} (hx : x.ok) : (negV x).fit := by
 unfold negV
 split
 next a => exact num_good (good_neg hx.1 hx.2 (num_of hx a))
 next => exact fit_bad _
theorem fit_not (x : VL) : (notV x).fit := by
 unfold notV
 split
 ·exact fit_fl _
 ·exact fit_bad _
theorem fit_may {x : VL} (hx : x.ok) : (mayV x).fit := by
 unfold mayV
 split
 next c => exact ⟨hx, c⟩
 next => exact fit_bad _
theorem fit_if {c x y : VL} (hx : x.ok) (hy : y.ok) : (ifV c x y).fit := by
 unfold ifV
 split
 ·refine fit_may ?_
  split
  ·exact hx
  ·exact hy
 ·exact fit_bad _
theorem fit_blk {x : VL} (hx : x.ok) : (blkV x).fit := by
 unfold blkV
 split
 next c =>
  split
  ·exact ⟨hx, c⟩
  ·exact fit_fl _
 next => exact fit_bad _
theorem fit_rnd {x : VL} (S p : Int) (hx : x.ok) : (rndV x S p).fit := by
 unfold rndV
 split
 next => exact num_good (good_rnd hx.1)
 next => exact fit_bad _
theorem fit_fit {x : VL} (tk ts p : Int) (hx : x.ok) : (fitV x tk ts p).fit := by
 unfold fitV
 split
 next c =>
  split; · exact ⟨hx, c⟩
  split; · exact ⟨hx, c⟩
  split
  ·split
   ·exact fit_rnd _ _ hx
   ·exact ⟨hx, c⟩
  ·exact fit_bad _
 next => exact fit_bad _
end Go.Proofs.YtogomodbcjpfiaaGreatDoor
namespace Go.Proofs.YtogomodbcjpfiaaGreatDoor
open Go.RowKit
theorem rchk_n (x : VL) (w : World) (hx : x.ok) : Calls Tryz.prog 14 #[x.v] w fun e9 w' => e9 = .returned (.int .i64 (ckI x)) ∧ Mo w w' := by
 refine w_enter 63 Tryz.func14 Tryz.ntmps14 rfl rfl ?_
 have M : Mo w w := Mo.refl _
 refine w_seq (w_reg ?_)
 refine wl_box 28 (.tmp 0) _ (((x.cells).toArray)) rfl rfl (fun _ => by kernel_rfl) rfl ?_
 intro k1 u1 hk hz hq Q1
 have N_k1 : w.heap.size ≤ k1 := by have := M.size; omega
 replace M := M.trans hq
 clear hk hz hq
 refine wl_m (.const (.int .i64 (0))) (.int .i64 (0)) ?_
 refine w_nil (xn_then (w_seq (w_reg ?_)))
 refine wl_m (.const (.bool false)) (.bool false) ?_
 refine w_nil (xn_then (w_seq (w_seq (w_reg ?_))))
 refine wl_f 28 0 (.tmp 1) (pt k1 0) (pt k1 0) ?_
 refine wl_l 3 (.tmp 4) (pt k1 0) (.int .i64 (x.k)) (run_one Q1 3 0 rfl Tryz.underlying3 rfl) ?_
 refine w_nil (xn_then (w_block (w_seq (w_reg ?_))))
 cases hf0 : decide (x.k = 0) with
 | true =>
  have hf0p := of_decide_eq_true hf0
  refine wl_b .eql 3 (.tmp 5) (.const (.int .i64 (0))) (.int .i64 (x.k)) (.int .i64 (0)) (.bool true) (eq3 hf0 _ _ _) ?_
  refine wl_m (.tmp 7) (.bool true) ?_
  refine w_nil (xn_then (w_condT rfl (w_reg ?_)))
  refine wl_l 28 (.tmp 1) (pt k1 0) (.agg (x.cells).toArray) (run_row Q1 28 0 10 (x.cells) rfl Tryz.underlying28 rfl sz28) ?_
  refine wl_build 28 [] [] (.agg #[.int .i64 0, .bool false, .int .u64 0, .int .u64 0, .int .u64 0, .int .u64 0, .int .i64 0, .bool false, .string ⟨#[]⟩, .int .i64 0]) rfl rfl (by kernel_rfl) rfl ?_
  cases hf1 : svv x vBl with
  | true =>
   refine wl_b .eql 28 (.tmp 8) (.tmp 9) (.agg (x.cells).toArray) (.agg #[.int .i64 0, .bool false, .int .u64 0, .int .u64 0, .int .u64 0, .int .u64 0, .int .i64 0, .bool false, .string ⟨#[]⟩, .int .i64 0]) (.bool true) (eqW hf1 _ _ _) ?_
   refine wl_m (.tmp 10) (.bool true) ?_
   refine w_nil (xn_blk (xn_then (w_seq (w_seq (w_reg ?_)))))
   refine wl_m (.tmp 3) (.bool true) ?_
   refine wl_un (fun v => Op.unary .not v) (.tmp 61) (.bool true) (.bool false) (fun _ => rfl) rfl (by kernel_rfl) rfl ?_
   refine w_nil (xn_then (w_condF rfl (w_skip (xn_then (w_seq (w_reg ?_))))))
   refine wl_m (.const (.int .i64 (0))) (.int .i64 (0)) ?_
   refine w_nil (xn_then (w_ret ?_))
   exact w_ret1 _ (.int .i64 (0)) rfl rfl ⟨by simp [ckI, ckv, bareV, inB, hf0p, hf1] <;> omega, M⟩
  | false =>
   refine wl_b .eql 28 (.tmp 8) (.tmp 9) (.agg (x.cells).toArray) (.agg #[.int .i64 0, .bool false, .int .u64 0, .int .u64 0, .int .u64 0, .int .u64 0, .int .i64 0, .bool false, .string ⟨#[]⟩, .int .i64 0]) (.bool false) (eqW hf1 _ _ _) ?_
   refine wl_m (.tmp 10) (.bool false) ?_
   refine w_nil (xn_blk (xn_then (w_seq (w_seq (w_reg ?_)))))
   refine wl_m (.tmp 3) (.bool false) ?_
   refine wl_un (fun v => Op.unary .not v) (.tmp 61) (.bool false) (.bool true) (fun _ => rfl) rfl (by kernel_rfl) rfl ?_
   refine w_nil (xn_then (w_condT rfl (w_seq (w_reg ?_))))
   refine wl_m (.const (.int .i64 (1))) (.int .i64 (1)) ?_
   refine w_nil (xn_then (w_ret (xr_then ?_)))
   exact w_ret1 _ (.int .i64 (1)) rfl rfl ⟨by simp [ckI, ckv, bareV, inB, hf0p, hf1] <;> omega, M⟩
 | false =>
  have hf0p := of_decide_eq_false hf0
  refine wl_b .eql 3 (.tmp 5) (.const (.int .i64 (0))) (.int .i64 (x.k)) (.int .i64 (0)) (.bool false) (eq3 hf0 _ _ _) ?_
  refine wl_m (.tmp 7) (.bool false) ?_
  refine w_nil (xn_then (w_condF rfl (w_seq (w_reg ?_))))
  cases hf1 : decide (x.k = 1) with
  | true =>
   have hf1p := of_decide_eq_true hf1
   refine wl_b .eql 3 (.tmp 5) (.const (.int .i64 (1))) (.int .i64 (x.k)) (.int .i64 (1)) (.bool true) (eq3 hf1 _ _ _) ?_
   refine wl_m (.tmp 12) (.bool true) ?_
   refine w_nil (xn_then (w_condT rfl (w_reg ?_)))
   refine wl_l 28 (.tmp 1) (pt k1 0) (.agg (x.cells).toArray) (run_row Q1 28 0 10 (x.cells) rfl Tryz.underlying28 rfl sz28) ?_
   refine wl_f 28 1 (.tmp 1) (pt k1 0) (pt k1 1) ?_
   refine wl_l 26 (.tmp 14) (pt k1 1) (.agg #[.bool x.b, .int .u64 (l0 x.n), .int .u64 (l1 x.n), .int .u64 (l2 x.n), .int .u64 (l3 x.n), .int .i64 x.s]) (run_row Q1 26 1 6 _ rfl Tryz.underlying26 rfl sz26) ?_
   refine wl_build 28 [(0, (.const (.int .i64 (1)))), (1, (.tmp 15))] [(0, .int .i64 (1)), (1, .agg #[.bool x.b, .int .u64 (l0 x.n), .int .u64 (l1 x.n), .int .u64 (l2 x.n), .int .u64 (l3 x.n), .int .i64 x.s])] (.agg #[.int .i64 (1), .bool x.b, .int .u64 (l0 x.n), .int .u64 (l1 x.n), .int .u64 (l2 x.n), .int .u64 (l3 x.n), .int .i64 x.s, .bool false, .string ⟨#[]⟩, .int .i64 0]) rfl rfl (by kernel_rfl) rfl ?_
   cases hf2 : svv x (vNu x.b x.n x.s) with
   | true =>
    refine wl_b .eql 28 (.tmp 13) (.tmp 16) (.agg (x.cells).toArray) (.agg #[.int .i64 (1), .bool x.b, .int .u64 (l0 x.n), .int .u64 (l1 x.n), .int .u64 (l2 x.n), .int .u64 (l3 x.n), .int .i64 x.s, .bool false, .string ⟨#[]⟩, .int .i64 0]) (.bool true) (eqW hf2 _ _ _) ?_
    refine wl_m (.tmp 17) (.bool true) ?_
    refine wl_f 28 1 (.tmp 1) (pt k1 0) (pt k1 1) ?_
    refine wl_l 26 (.tmp 19) (pt k1 1) (.agg #[.bool x.b, .int .u64 (l0 x.n), .int .u64 (l1 x.n), .int .u64 (l2 x.n), .int .u64 (l3 x.n), .int .i64 x.s]) (run_row Q1 26 1 6 _ rfl Tryz.underlying26 rfl sz26) ?_
    refine wl_call 42 [(.tmp 20)] _ [.agg #[.bool x.b, .int .u64 (l0 x.n), .int .u64 (l1 x.n), .int .u64 (l2 x.n), .int .u64 (l3 x.n), .int .i64 x.s]] (.int .i64 (ck x.b x.n x.s)) rfl rfl (fun _ _ => by kernel_rfl) (rcheck_n x.b x.n x.s _ hx.1 hx.2) rfl ?_
    intro u2 hq
    replace Q1 := Q1.mo hq
    replace M := M.trans hq
    clear hq
    cases hf3 : decide (ck x.b x.n x.s = 0) with
    | true =>
     have hf3p := of_decide_eq_true hf3
     refine wl_b .eql 32 (.tmp 21) (.const (.int .i64 (0))) (.int .i64 (ck x.b x.n x.s)) (.int .i64 (0)) (.bool true) (eq34 hf3 _ _ _) ?_
     refine wl_pick (.tmp 18) (.tmp 22) (.const (.bool false)) true (.bool true) (fun _ => rfl) rfl rfl rfl ?_
     refine wl_m (.tmp 23) (.bool true) ?_
     refine w_nil (xn_blk (xn_then (w_seq (w_seq (w_reg ?_)))))
     refine wl_m (.tmp 3) (.bool true) ?_
     refine wl_un (fun v => Op.unary .not v) (.tmp 61) (.bool true) (.bool false) (fun _ => rfl) rfl (by kernel_rfl) rfl ?_
     refine w_nil (xn_then (w_condF rfl (w_skip (xn_then (w_seq (w_reg ?_))))))
     refine wl_m (.const (.int .i64 (0))) (.int .i64 (0)) ?_
     refine w_nil (xn_then (w_ret ?_))
     exact w_ret1 _ (.int .i64 (0)) rfl rfl ⟨by simp [ckI, ckv, bareV, inB, hf1p, hf2, hf3p] <;> omega, M⟩
    | false =>
     have hf3p := of_decide_eq_false hf3
     refine wl_b .eql 32 (.tmp 21) (.const (.int .i64 (0))) (.int .i64 (ck x.b x.n x.s)) (.int .i64 (0)) (.bool false) (eq34 hf3 _ _ _) ?_
     refine wl_pick (.tmp 18) (.tmp 22) (.const (.bool false)) true (.bool false) (fun _ => rfl) rfl rfl rfl ?_
     refine wl_m (.tmp 23) (.bool false) ?_
     refine w_nil (xn_blk (xn_then (w_seq (w_seq (w_reg ?_)))))
     refine wl_m (.tmp 3) (.bool false) ?_
     refine wl_un (fun v => Op.unary .not v) (.tmp 61) (.bool false) (.bool true) (fun _ => rfl) rfl (by kernel_rfl) rfl ?_
     refine w_nil (xn_then (w_condT rfl (w_seq (w_reg ?_))))
     refine wl_m (.const (.int .i64 (1))) (.int .i64 (1)) ?_
     refine w_nil (xn_then (w_ret (xr_then ?_)))
     exact w_ret1 _ (.int .i64 (1)) rfl rfl ⟨by simp [ckI, ckv, bareV, inB, hf1p, hf2, hf3p] <;> omega, M⟩
   | false =>
    refine wl_b .eql 28 (.tmp 13) (.tmp 16) (.agg (x.cells).toArray) (.agg #[.int .i64 (1), .bool x.b, .int .u64 (l0 x.n), .int .u64 (l1 x.n), .int .u64 (l2 x.n), .int .u64 (l3 x.n), .int .i64 x.s, .bool false, .string ⟨#[]⟩, .int .i64 0]) (.bool false) (eqW hf2 _ _ _) ?_
    refine wl_m (.tmp 17) (.bool false) ?_
    refine wl_skip rfl (wl_skip rfl (wl_skip rfl (wl_skip rfl ?_)))
    refine wl_pick (.tmp 18) (.tmp 22) (.const (.bool false)) false (.bool false) (fun _ => rfl) rfl rfl rfl ?_
    refine wl_m (.tmp 23) (.bool false) ?_
    refine w_nil (xn_blk (xn_then (w_seq (w_seq (w_reg ?_)))))
    refine wl_m (.tmp 3) (.bool false) ?_
    refine wl_un (fun v => Op.unary .not v) (.tmp 61) (.bool false) (.bool true) (fun _ => rfl) rfl (by kernel_rfl) rfl ?_
    refine w_nil (xn_then (w_condT rfl (w_seq (w_reg ?_))))
    refine wl_m (.const (.int .i64 (1))) (.int .i64 (1)) ?_
    refine w_nil (xn_then (w_ret (xr_then ?_)))
    exact w_ret1 _ (.int .i64 (1)) rfl rfl ⟨by simp [ckI, ckv, bareV, inB, hf1p, hf2] <;> omega, M⟩
  | false =>
   have hf1p := of_decide_eq_false hf1
   refine wl_b .eql 3 (.tmp 5) (.const (.int .i64 (1))) (.int .i64 (x.k)) (.int .i64 (1)) (.bool false) (eq3 hf1 _ _ _) ?_
   refine wl_m (.tmp 12) (.bool false) ?_
   refine w_nil (xn_then (w_condF rfl (w_seq (w_reg ?_))))
   cases hf2 : decide (x.k = 2) with
   | true =>
    have hf2p := of_decide_eq_true hf2
    refine wl_b .eql 3 (.tmp 5) (.const (.int .i64 (2))) (.int .i64 (x.k)) (.int .i64 (2)) (.bool true) (eq3 hf2 _ _ _) ?_
    refine wl_m (.tmp 25) (.bool true) ?_
    refine w_nil (xn_then (w_condT rfl (w_reg ?_)))
    refine wl_l 28 (.tmp 1) (pt k1 0) (.agg (x.cells).toArray) (run_row Q1 28 0 10 (x.cells) rfl Tryz.underlying28 rfl sz28) ?_
    refine wl_f 28 2 (.tmp 1) (pt k1 0) (pt k1 7) ?_
    refine wl_l 4 (.tmp 27) (pt k1 7) (.bool x.f) (run_one Q1 4 7 rfl Tryz.underlying4 rfl) ?_
    refine wl_build 28 [(0, (.const (.int .i64 (2)))), (2, (.tmp 28))] [(0, .int .i64 (2)), (2, .bool x.f)] (.agg #[.int .i64 (2), .bool false, .int .u64 0, .int .u64 0, .int .u64 0, .int .u64 0, .int .i64 0, .bool x.f, .string ⟨#[]⟩, .int .i64 0]) rfl rfl (by kernel_rfl) rfl ?_
    cases hf3 : svv x (vFl x.f) with
    | true =>
     refine wl_b .eql 28 (.tmp 26) (.tmp 29) (.agg (x.cells).toArray) (.agg #[.int .i64 (2), .bool false, .int .u64 0, .int .u64 0, .int .u64 0, .int .u64 0, .int .i64 0, .bool x.f, .string ⟨#[]⟩, .int .i64 0]) (.bool true) (eqW hf3 _ _ _) ?_
     refine wl_m (.tmp 30) (.bool true) ?_
     refine w_nil (xn_blk (xn_then (w_seq (w_seq (w_reg ?_)))))
     refine wl_m (.tmp 3) (.bool true) ?_
     refine wl_un (fun v => Op.unary .not v) (.tmp 61) (.bool true) (.bool false) (fun _ => rfl) rfl (by kernel_rfl) rfl ?_
     refine w_nil (xn_then (w_condF rfl (w_skip (xn_then (w_seq (w_reg ?_))))))
     refine wl_m (.const (.int .i64 (0))) (.int .i64 (0)) ?_
     refine w_nil (xn_then (w_ret ?_))
     exact w_ret1 _ (.int .i64 (0)) rfl rfl ⟨by simp [ckI, ckv, bareV, inB, hf2p, hf3] <;> omega, M⟩
    | false =>
     refine wl_b .eql 28 (.tmp 26) (.tmp 29) (.agg (x.cells).toArray) (.agg #[.int .i64 (2), .bool false, .int .u64 0, .int .u64 0, .int .u64 0, .int .u64 0, .int .i64 0, .bool x.f, .string ⟨#[]⟩, .int .i64 0]) (.bool false) (eqW hf3 _ _ _) ?_
     refine wl_m (.tmp 30) (.bool false) ?_
     refine w_nil (xn_blk (xn_then (w_seq (w_seq (w_reg ?_)))))
     refine wl_m (.tmp 3) (.bool false) ?_
     refine wl_un (fun v => Op.unary .not v) (.tmp 61) (.bool false) (.bool true) (fun _ => rfl) rfl (by kernel_rfl) rfl ?_
     refine w_nil (xn_then (w_condT rfl (w_seq (w_reg ?_))))
     refine wl_m (.const (.int .i64 (1))) (.int .i64 (1)) ?_
     refine w_nil (xn_then (w_ret (xr_then ?_)))
     exact w_ret1 _ (.int .i64 (1)) rfl rfl ⟨by simp [ckI, ckv, bareV, inB, hf2p, hf3] <;> omega, M⟩
   | false =>
    have hf2p := of_decide_eq_false hf2
    refine wl_b .eql 3 (.tmp 5) (.const (.int .i64 (2))) (.int .i64 (x.k)) (.int .i64 (2)) (.bool false) (eq3 hf2 _ _ _) ?_
    refine wl_m (.tmp 25) (.bool false) ?_
    refine w_nil (xn_then (w_condF rfl (w_seq (w_reg ?_))))
    cases hf3 : decide (x.k = 3) with
    | true =>
     have hf3p := of_decide_eq_true hf3
     refine wl_b .eql 3 (.tmp 5) (.const (.int .i64 (3))) (.int .i64 (x.k)) (.int .i64 (3)) (.bool true) (eq3 hf3 _ _ _) ?_
     refine wl_m (.tmp 32) (.bool true) ?_
     refine w_nil (xn_then (w_condT rfl (w_reg ?_)))
     refine wl_l 28 (.tmp 1) (pt k1 0) (.agg (x.cells).toArray) (run_row Q1 28 0 10 (x.cells) rfl Tryz.underlying28 rfl sz28) ?_
     refine wl_f 28 3 (.tmp 1) (pt k1 0) (pt k1 8) ?_
     refine wl_l 9 (.tmp 34) (pt k1 8) (.string x.t) (run_one Q1 9 8 rfl Tryz.underlying9 rfl) ?_
     refine wl_build 28 [(0, (.const (.int .i64 (3)))), (3, (.tmp 35))] [(0, .int .i64 (3)), (3, .string x.t)] (.agg #[.int .i64 (3), .bool false, .int .u64 0, .int .u64 0, .int .u64 0, .int .u64 0, .int .i64 0, .bool false, .string x.t, .int .i64 0]) rfl rfl (by kernel_rfl) rfl ?_
     cases hf4 : svv x (vTx x.t) with
     | true =>
      refine wl_b .eql 28 (.tmp 33) (.tmp 36) (.agg (x.cells).toArray) (.agg #[.int .i64 (3), .bool false, .int .u64 0, .int .u64 0, .int .u64 0, .int .u64 0, .int .i64 0, .bool false, .string x.t, .int .i64 0]) (.bool true) (eqW hf4 _ _ _) ?_
      refine wl_m (.tmp 37) (.bool true) ?_
      refine wl_f 28 3 (.tmp 1) (pt k1 0) (pt k1 8) ?_
      refine wl_l 9 (.tmp 39) (pt k1 8) (.string x.t) (run_one Q1 9 8 rfl Tryz.underlying9 rfl) ?_
      refine wl_val (.int .i64 ((x.t.size : Nat) : Int)) (len_s _ _ _ (by exact rfl) _ _ _ _ _ _) rfl ?_
      cases hf5 : decide (((x.t.size : Nat) : Int) ≤ 64) with
      | true =>
       have hf5p := of_decide_eq_true hf5
       refine wl_b .leq 3 (.tmp 41) (.const (.int .i64 (64))) (.int .i64 ((x.t.size : Nat) : Int)) (.int .i64 (64)) (.bool true) (le3 hf5 _ _ _) ?_
       refine wl_pick (.tmp 38) (.tmp 42) (.const (.bool false)) true (.bool true) (fun _ => rfl) rfl rfl rfl ?_
       refine wl_m (.tmp 43) (.bool true) ?_
       refine w_nil (xn_blk (xn_then (w_seq (w_seq (w_reg ?_)))))
       refine wl_m (.tmp 3) (.bool true) ?_
       refine wl_un (fun v => Op.unary .not v) (.tmp 61) (.bool true) (.bool false) (fun _ => rfl) rfl (by kernel_rfl) rfl ?_
       refine w_nil (xn_then (w_condF rfl (w_skip (xn_then (w_seq (w_reg ?_))))))
       refine wl_m (.const (.int .i64 (0))) (.int .i64 (0)) ?_
       refine w_nil (xn_then (w_ret ?_))
       exact w_ret1 _ (.int .i64 (0)) rfl rfl ⟨by simp [ckI, ckv, bareV, inB, hf3p, hf4] <;> omega, M⟩
      | false =>
       have hf5p := of_decide_eq_false hf5
       refine wl_b .leq 3 (.tmp 41) (.const (.int .i64 (64))) (.int .i64 ((x.t.size : Nat) : Int)) (.int .i64 (64)) (.bool false) (le3 hf5 _ _ _) ?_
       refine wl_pick (.tmp 38) (.tmp 42) (.const (.bool false)) true (.bool false) (fun _ => rfl) rfl rfl rfl ?_
       refine wl_m (.tmp 43) (.bool false) ?_
       refine w_nil (xn_blk (xn_then (w_seq (w_seq (w_reg ?_)))))
       refine wl_m (.tmp 3) (.bool false) ?_
       refine wl_un (fun v => Op.unary .not v) (.tmp 61) (.bool false) (.bool true) (fun _ => rfl) rfl (by kernel_rfl) rfl ?_
       refine w_nil (xn_then (w_condT rfl (w_seq (w_reg ?_))))
       refine wl_m (.const (.int .i64 (1))) (.int .i64 (1)) ?_
       refine w_nil (xn_then (w_ret (xr_then ?_)))
       exact w_ret1 _ (.int .i64 (1)) rfl rfl ⟨by simp [ckI, ckv, bareV, inB, hf3p, hf4] <;> omega, M⟩
     | false =>
      refine wl_b .eql 28 (.tmp 33) (.tmp 36) (.agg (x.cells).toArray) (.agg #[.int .i64 (3), .bool false, .int .u64 0, .int .u64 0, .int .u64 0, .int .u64 0, .int .i64 0, .bool false, .string x.t, .int .i64 0]) (.bool false) (eqW hf4 _ _ _) ?_
      refine wl_m (.tmp 37) (.bool false) ?_
      refine wl_skip rfl (wl_skip rfl (wl_skip rfl (wl_skip rfl ?_)))
      refine wl_pick (.tmp 38) (.tmp 42) (.const (.bool false)) false (.bool false) (fun _ => rfl) rfl rfl rfl ?_
      refine wl_m (.tmp 43) (.bool false) ?_
      refine w_nil (xn_blk (xn_then (w_seq (w_seq (w_reg ?_)))))
      refine wl_m (.tmp 3) (.bool false) ?_
      refine wl_un (fun v => Op.unary .not v) (.tmp 61) (.bool false) (.bool true) (fun _ => rfl) rfl (by kernel_rfl) rfl ?_
      refine w_nil (xn_then (w_condT rfl (w_seq (w_reg ?_))))
      refine wl_m (.const (.int .i64 (1))) (.int .i64 (1)) ?_
      refine w_nil (xn_then (w_ret (xr_then ?_)))
      exact w_ret1 _ (.int .i64 (1)) rfl rfl ⟨by simp [ckI, ckv, bareV, inB, hf3p, hf4] <;> omega, M⟩
    | false =>
     have hf3p := of_decide_eq_false hf3
     refine wl_b .eql 3 (.tmp 5) (.const (.int .i64 (3))) (.int .i64 (x.k)) (.int .i64 (3)) (.bool false) (eq3 hf3 _ _ _) ?_
     refine wl_m (.tmp 32) (.bool false) ?_
     refine w_nil (xn_then (w_condF rfl (w_seq (w_reg ?_))))
     cases hf4 : decide (x.k = 4) with
     | true =>
      have hf4p := of_decide_eq_true hf4
      refine wl_b .eql 3 (.tmp 5) (.const (.int .i64 (4))) (.int .i64 (x.k)) (.int .i64 (4)) (.bool true) (eq3 hf4 _ _ _) ?_
      refine wl_m (.tmp 45) (.bool true) ?_
      refine w_nil (xn_then (w_condT rfl (w_reg ?_)))
      refine wl_l 28 (.tmp 1) (pt k1 0) (.agg (x.cells).toArray) (run_row Q1 28 0 10 (x.cells) rfl Tryz.underlying28 rfl sz28) ?_
      refine wl_f 28 4 (.tmp 1) (pt k1 0) (pt k1 9) ?_
      refine wl_l 3 (.tmp 47) (pt k1 9) (.int .i64 (x.e)) (run_one Q1 3 9 rfl Tryz.underlying3 rfl) ?_
      refine wl_build 28 [(0, (.const (.int .i64 (4)))), (4, (.tmp 48))] [(0, .int .i64 (4)), (4, .int .i64 (x.e))] (.agg #[.int .i64 (4), .bool false, .int .u64 0, .int .u64 0, .int .u64 0, .int .u64 0, .int .i64 0, .bool false, .string ⟨#[]⟩, .int .i64 (x.e)]) rfl rfl (by kernel_rfl) rfl ?_
      cases hf5 : svv x (vEr x.e) with
      | true =>
       refine wl_b .eql 28 (.tmp 46) (.tmp 49) (.agg (x.cells).toArray) (.agg #[.int .i64 (4), .bool false, .int .u64 0, .int .u64 0, .int .u64 0, .int .u64 0, .int .i64 0, .bool false, .string ⟨#[]⟩, .int .i64 (x.e)]) (.bool true) (eqW hf5 _ _ _) ?_
       refine wl_m (.tmp 50) (.bool true) ?_
       refine wl_f 28 4 (.tmp 1) (pt k1 0) (pt k1 9) ?_
       refine wl_l 3 (.tmp 52) (pt k1 9) (.int .i64 (x.e)) (run_one Q1 3 9 rfl Tryz.underlying3 rfl) ?_
       cases hf6 : decide (1 ≤ x.e) with
       | true =>
        have hf6p := of_decide_eq_true hf6
        refine wl_b .geq 3 (.tmp 53) (.const (.int .i64 (1))) (.int .i64 (x.e)) (.int .i64 (1)) (.bool true) (ge3 hf6 _ _ _) ?_
        refine wl_pick (.tmp 51) (.tmp 54) (.const (.bool false)) true (.bool true) (fun _ => rfl) rfl rfl rfl ?_
        refine wl_m (.tmp 55) (.bool true) ?_
        refine wl_f 28 4 (.tmp 1) (pt k1 0) (pt k1 9) ?_
        refine wl_l 3 (.tmp 57) (pt k1 9) (.int .i64 (x.e)) (run_one Q1 3 9 rfl Tryz.underlying3 rfl) ?_
        cases hf7 : decide (x.e ≤ 5) with
        | true =>
         have hf7p := of_decide_eq_true hf7
         refine wl_b .leq 3 (.tmp 58) (.const (.int .i64 (5))) (.int .i64 (x.e)) (.int .i64 (5)) (.bool true) (le3 hf7 _ _ _) ?_
         refine wl_pick (.tmp 56) (.tmp 59) (.const (.bool false)) true (.bool true) (fun _ => rfl) rfl rfl rfl ?_
         refine wl_m (.tmp 60) (.bool true) ?_
         refine w_nil (xn_blk (xn_then (w_seq (w_seq (w_reg ?_)))))
         refine wl_m (.tmp 3) (.bool true) ?_
         refine wl_un (fun v => Op.unary .not v) (.tmp 61) (.bool true) (.bool false) (fun _ => rfl) rfl (by kernel_rfl) rfl ?_
         refine w_nil (xn_then (w_condF rfl (w_skip (xn_then (w_seq (w_reg ?_))))))
         refine wl_m (.const (.int .i64 (0))) (.int .i64 (0)) ?_
         refine w_nil (xn_then (w_ret ?_))
         exact w_ret1 _ (.int .i64 (0)) rfl rfl ⟨by simp [ckI, ckv, bareV, inB, isE, hf4p, hf5, hf6p, hf7p] <;> omega, M⟩
        | false =>
         have hf7p := of_decide_eq_false hf7
         refine wl_b .leq 3 (.tmp 58) (.const (.int .i64 (5))) (.int .i64 (x.e)) (.int .i64 (5)) (.bool false) (le3 hf7 _ _ _) ?_
         refine wl_pick (.tmp 56) (.tmp 59) (.const (.bool false)) true (.bool false) (fun _ => rfl) rfl rfl rfl ?_
         refine wl_m (.tmp 60) (.bool false) ?_
         refine w_nil (xn_blk (xn_then (w_seq (w_seq (w_reg ?_)))))
         refine wl_m (.tmp 3) (.bool false) ?_
         refine wl_un (fun v => Op.unary .not v) (.tmp 61) (.bool false) (.bool true) (fun _ => rfl) rfl (by kernel_rfl) rfl ?_
         refine w_nil (xn_then (w_condT rfl (w_seq (w_reg ?_))))
         refine wl_m (.const (.int .i64 (1))) (.int .i64 (1)) ?_
         refine w_nil (xn_then (w_ret (xr_then ?_)))
         exact w_ret1 _ (.int .i64 (1)) rfl rfl ⟨by simp [ckI, ckv, bareV, inB, isE, hf4p, hf5, hf6p, hf7p] <;> omega, M⟩
       | false =>
        have hf6p := of_decide_eq_false hf6
        refine wl_b .geq 3 (.tmp 53) (.const (.int .i64 (1))) (.int .i64 (x.e)) (.int .i64 (1)) (.bool false) (ge3 hf6 _ _ _) ?_
        refine wl_pick (.tmp 51) (.tmp 54) (.const (.bool false)) true (.bool false) (fun _ => rfl) rfl rfl rfl ?_
        refine wl_m (.tmp 55) (.bool false) ?_
        refine wl_skip rfl (wl_skip rfl (wl_skip rfl ?_))
        refine wl_pick (.tmp 56) (.tmp 59) (.const (.bool false)) false (.bool false) (fun _ => rfl) rfl rfl rfl ?_
        refine wl_m (.tmp 60) (.bool false) ?_
        refine w_nil (xn_blk (xn_then (w_seq (w_seq (w_reg ?_)))))
        refine wl_m (.tmp 3) (.bool false) ?_
        refine wl_un (fun v => Op.unary .not v) (.tmp 61) (.bool false) (.bool true) (fun _ => rfl) rfl (by kernel_rfl) rfl ?_
        refine w_nil (xn_then (w_condT rfl (w_seq (w_reg ?_))))
        refine wl_m (.const (.int .i64 (1))) (.int .i64 (1)) ?_
        refine w_nil (xn_then (w_ret (xr_then ?_)))
        exact w_ret1 _ (.int .i64 (1)) rfl rfl ⟨by simp [ckI, ckv, bareV, inB, isE, hf4p, hf5, hf6p] <;> omega, M⟩
      | false =>
       refine wl_b .eql 28 (.tmp 46) (.tmp 49) (.agg (x.cells).toArray) (.agg #[.int .i64 (4), .bool false, .int .u64 0, .int .u64 0, .int .u64 0, .int .u64 0, .int .i64 0, .bool false, .string ⟨#[]⟩, .int .i64 (x.e)]) (.bool false) (eqW hf5 _ _ _) ?_
       refine wl_m (.tmp 50) (.bool false) ?_
       refine wl_skip rfl (wl_skip rfl (wl_skip rfl ?_))
       refine wl_pick (.tmp 51) (.tmp 54) (.const (.bool false)) false (.bool false) (fun _ => rfl) rfl rfl rfl ?_
       refine wl_m (.tmp 55) (.bool false) ?_
       refine wl_skip rfl (wl_skip rfl (wl_skip rfl ?_))
       refine wl_pick (.tmp 56) (.tmp 59) (.const (.bool false)) false (.bool false) (fun _ => rfl) rfl rfl rfl ?_
       refine wl_m (.tmp 60) (.bool false) ?_
       refine w_nil (xn_blk (xn_then (w_seq (w_seq (w_reg ?_)))))
       refine wl_m (.tmp 3) (.bool false) ?_
       refine wl_un (fun v => Op.unary .not v) (.tmp 61) (.bool false) (.bool true) (fun _ => rfl) rfl (by kernel_rfl) rfl ?_
       refine w_nil (xn_then (w_condT rfl (w_seq (w_reg ?_))))
       refine wl_m (.const (.int .i64 (1))) (.int .i64 (1)) ?_
       refine w_nil (xn_then (w_ret (xr_then ?_)))
       exact w_ret1 _ (.int .i64 (1)) rfl rfl ⟨by simp [ckI, ckv, bareV, inB, isE, hf4p, hf5] <;> omega, M⟩
     | false =>
      have hf4p := of_decide_eq_false hf4
      refine wl_b .eql 3 (.tmp 5) (.const (.int .i64 (4))) (.int .i64 (x.k)) (.int .i64 (4)) (.bool false) (eq3 hf4 _ _ _) ?_
      refine wl_m (.tmp 45) (.bool false) ?_
      refine w_nil (xn_then (w_condF rfl (w_skip (xn_blk (xn_then (w_seq (w_seq (w_reg ?_))))))))
      refine wl_m (.tmp 3) (.bool false) ?_
      refine wl_un (fun v => Op.unary .not v) (.tmp 61) (.bool false) (.bool true) (fun _ => rfl) rfl (by kernel_rfl) rfl ?_
      refine w_nil (xn_then (w_condT rfl (w_seq (w_reg ?_))))
      refine wl_m (.const (.int .i64 (1))) (.int .i64 (1)) ?_
      refine w_nil (xn_then (w_ret (xr_then ?_)))
      exact w_ret1 _ (.int .i64 (1)) rfl rfl ⟨by simp [ckI, ckv, bareV, inB, svv_bl, hf0p, hf1p, hf2p, hf3p, hf4p] <;> omega, M⟩
theorem rcheck_t {x : VL} (hc : ckv x = true) (hx : x.ok) (w : World) : Calls Tryz.prog 14 #[x.v] w fun e9 w' => e9 = .returned (.int .i64 0) ∧ Mo w w' := by
 have q := rchk_n x w hx
 unfold ckI at q
 rw [hc] at q
 exact q
end Go.Proofs.YtogomodbcjpfiaaGreatDoor
namespace Go.Proofs.YtogomodbcjpfiaaGreatDoor
open Go.ChangeShapes Go.WideShapes Go.ChangeAt Go.RowKit Go.ChangeMaps
set_option maxRecDepth 100000
section
variable {H : Type} {enc : TypeId × Value → H} {W : World} {base : Nat} {v : Value} {d : DataW H} {p : List MemPlace}
theorem open_i64 (hv : Value.okWide Tryz.prog W .any base 3 v) (h : DataW.Trod enc Tryz.prog W 0 (fun _ => true) true 3 v d p) :
  ∃ x : Int, v = .int .i64 x ∧ p = [] ∧ ∀ (W' : World) (sp : Nat → Bool), DataW.Trod enc Tryz.prog W' 0 sp true 3 v d [] := by
 obtain ⟨n, rfl, rfl, rfl, hw⟩ := open_int Tryz.underlying3 hv h
 exact ⟨n, rfl, rfl, fun W' sp => shut_int Tryz.underlying3 hw⟩
end
end Go.Proofs.YtogomodbcjpfiaaGreatDoor
namespace Go.Proofs.YtogomodbcjpfiaaGreatDoor
open Go.RowKit

def spQ (sp : List (Value → World → Prop)) (j : Nat) : Value → World → Prop := (sp[j]?).getD (fun _ _ => True)
def Smo (p : Value → World → Prop) : Prop := ∀ u w w', p u w → Mo w w' → p u w'
def Smos (sp : List (Value → World → Prop)) : Prop := ∀ j, Smo (spQ sp j)
theorem smos_nil : Smos [] := fun _ _ _ _ _ _ => trivial
theorem smos_cons {p : Value → World → Prop} {sp : List (Value → World → Prop)} (h : Smo p) (hs : Smos sp) : Smos (p :: sp) := fun j => by
 cases j with
 | zero => exact h
 | succ j => have := hs j; unfold spQ at this ⊢; simpa using this
def vq (v : Value) : Value → World → Prop := fun u _ => u = v
theorem smo_vq (v : Value) : Smo (vq v) := fun _ _ _ h _ => h
section
variable {P : Program} {n : Nat} {l : List (Nat × Value)} {w : World} {Q : Exit → Act → World → Prop}
structure OgC (P : Program) (ops : List Oper) (Q : Exit → Act → World → Prop) (n : Nat) (l : List (Nat × Value)) (m : Nat) (G : World → Prop) (sp : List (Value → World → Prop)) (i : Nat) (o : Oper) : Prop where
 out : ∀ f w, G w → (∀ j, depb o j = true → spQ sp j (f j) w) → ∀ K : Act → World → Prop,
  (∀ v w', G w' → spQ sp i v w' → (∀ j u, j ≠ i → spQ sp j u w → spQ sp j u w') → K (fr n (ext (asg f 0 (ops.take m) l) o.dst v)) w') →
  Go1 P ops Q n (asg f 0 (ops.take m) l) w K o
def LateC (P : Program) (ops : List Oper) (Q : Exit → Act → World → Prop) (n : Nat) (l : List (Nat × Value)) (m : Nat) (sp : List (Value → World → Prop)) (i : Nat) : Prop :=
 ∃ o v, ops[i]? = some o ∧ spQ sp i = vq v ∧ (∀ u c a w, Q (.panic c) (a.put o.dst u) w → Q (.panic c) a w) ∧
  ∀ f, (∀ j, depb o j = true → ∀ u, spQ sp j = vq u → f j = u) → wnt n (asg f 0 (ops.take m) l) ops.toArray o = true ∧ ∀ w, (execOp (evl n (asg f 0 (ops.take m) l)) o).run P w = .ok (.value v) w
theorem a_ogc {ops : List Oper} (m : Nat) (G : World → Prop) (sp : List (Value → World → Prop)) (fs : List Nat) 
    (hb : edgesBack .any ops.toArray = true) (hd : dstsApart (ops.take m) = true) (hc : chainB ops m fs = true) (hl : Nat.ble m ops.length = true) (hf : floatB ops m fs = true) (hns : Region.noSelect ops.toArray = true)
    (hlate : ∀ i, i ∈ fs → LateC P ops Q n l m sp i) (hG : G w.drew) (hs : Each (OgC P ops Q n l m G sp) 0 (ops.take m))
    (hend : ∀ f w', G w' → (∀ i, Nat.blt i m = true → spQ sp i (f i) w') → WL P ops.toArray Q (ops.drop m) n (asg f 0 (ops.take m) l) w') : wpAny P .any ops.toArray Q ops.toArray.size (Array.replicate ops.toArray.size false) (fr n l) w.drew := by
  have hml : m ≤ ops.length := Nat.le_of_ble_eq_true hl
  have hfm : ∀ i, i ∈ fs → i < m := fun i hi => by
    have := List.all_eq_true.1 hf i hi
    simp only [Bool.and_eq_true] at this
    rw [Nat.blt_eq] at this; exact this.1
  have hfs : ∀ j, m ≤ j → fs.contains j = false := fun j hj => by
    cases e : fs.contains j with
    | false => rfl
    | true => have := hfm j (by simpa using e); omega
  -- all that are not late have come up: the late ones first, then the last part
  have second : ∀ (d fuel : Nat) (listed : Array Bool) (f : Nat → Value) (w : World), listed.toList.count false = (ops.length - m) + d → (ops.length - m) + d ≤ fuel → listed.size = ops.length → Shut ops listed → (∀ j, m ≤ j → j < ops.length → listed.getD j true = false) →
      (∀ j, j < m → fs.contains j = false → listed.getD j true = true) → G w → (∀ i, i < m → listed.getD i false = true → spQ sp i (f i) w) → wpAny P .any ops.toArray Q fuel listed (putAll f 0 (ops.take m) (fr n l)) w := by
    intro d
    induction d with
    | zero =>
      intro fuel listed f w hcnt hfu hz hsh hun hall hW hR
      have hall2 : ∀ j, j < m → listed.getD j true = true := fun j hj => by
        cases e : listed.getD j true with
        | true => rfl
        | false =>
          exfalso
          have h1 : (listed.toList.drop m).count false = ops.length - m := by
            have h2 : listed.toList.drop m = List.replicate (ops.length - m) false := by
              apply List.ext_getElem
              · simp [hz]
              · intro j h3 h4
                simp at h3
                have := hun (m + j) (by omega) (by omega)
                have h5 : m + j < listed.size := by omega
                simpa [h5] using this
            rw [h2]; simp
          have h3 := List.take_append_drop m listed.toList
          have h4 : 0 < (listed.toList.take m).count false := by
            apply List.count_pos_iff.2
            have hjs : j < listed.size := by omega
            simp [hjs] at e
            rw [List.mem_iff_getElem]
            exact ⟨j, by simp; omega, by simp [e]⟩
          rw [← h3, List.count_append] at hcnt
          omega
      refine wpAny_chain hfs hc hb (ops.length - m) m _ listed _ w (by omega) (Nat.le_refl _) (by omega) hz hsh (fun j hj => ?_) ?_
      · rcases Nat.lt_or_ge j m with h | h
        · rw [hall2 j h]; simp [h]
        · rw [hun j h hj]; simp [Nat.not_lt.2 h]
      · rw [putAll_fr]
        exact (hend f w hW (fun i hi => by
          have hi' : i < m := by rw [Nat.blt_eq] at hi; exact hi
          refine hR i hi' ?_
          have h1 := hall2 i hi'
          have h2 : i < listed.size := by omega
          simpa [h2] using h1)).out
    | succ d ih =>
      intro fuel listed f w hcnt hfu hz hsh hun hall hW hR
      -- a late one that has not come up: the first
      have hex : ∃ i, i < m ∧ listed.getD i true = false := by
        apply Classical.byContradiction
        intro hno
        have hall2 : ∀ j, j < m → listed.getD j true = true := fun j hj => by
          cases e : listed.getD j true with
          | true => rfl
          | false => exact absurd ⟨j, hj, e⟩ hno
        have h3 := List.take_append_drop m listed.toList
        have h4 : (listed.toList.take m).count false = 0 := by
          rw [List.count_eq_zero]
          intro hmem
          rw [List.mem_iff_getElem] at hmem
          obtain ⟨j, hj, e⟩ := hmem
          simp at hj e
          have hj1 : j < m := by omega
          have hj2 : j < listed.size := by omega
          have := hall2 j hj1
          simp [hj2] at this
          rw [this] at e; cases e
        have h5 : (listed.toList.drop m).count false ≤ ops.length - m := by
          have := List.count_le_length (a := false) (l := listed.toList.drop m)
          simp [hz] at this; exact this
        rw [← h3, List.count_append] at hcnt
        omega
      obtain ⟨i, ⟨him, hiu⟩, hmin⟩ := exists_least0 hex
      have hif : i ∈ fs := by
        cases e : fs.contains i with
        | true => simpa using e
        | false => have := hall i him e; rw [hiu] at this; cases this
      obtain ⟨o, v, ho, hv, hQ, hy⟩ := hlate i hif
      have hdep : ∀ e ∈ o.after, Region.binds .any e = true → listed.getD e.on false = true := fun e he hbd => by
        have hlt := edgesBack_spec hb (i := i) (o := o) (by simpa using ho) e he hbd
        have h1 : listed.getD e.on true = true := by
          cases ee : listed.getD e.on true with
          | true => rfl
          | false => have := hmin e.on ⟨by omega, ee⟩; omega
        have h2 : e.on < listed.size := by omega
        simpa [h2] using h1
      have hval : ∀ j, depb o j = true → ∀ u, spQ sp j = vq u → f j = u := fun j hj u hu => by
        obtain ⟨e, he, hb'⟩ := List.any_eq_true.1 hj
        simp only [Bool.and_eq_true] at hb'
        have heon := Nat.eq_of_beq_eq_true hb'.2
        have hj' := hdep e (by simpa using he) hb'.1
        have hlt := edgesBack_spec hb (i := i) (o := o) (by simpa using ho) e (by simpa using he) hb'.1
        rw [heon] at hj' hlt
        have := hR j (by omega) hj'
        rw [hu] at this
        exact this
      obtain ⟨hw1, hw2⟩ := hy f hval
      cases fuel with
      | zero => omega
      | succ fuel =>
        refine wpAny_first (i := i) (oi := o) (v := v) (by simpa using ho) (Region.noSelect_spec hns) (hQ v) fuel listed _ w ?_ ?_ ?_ ?_
        · intro j oj hoj hji hju hno
          have hjl : j < ops.length := by have := (Array.getElem?_eq_some_iff.1 hoj).1; simpa using this
          have h1 := List.all_eq_true.1 hf i hif
          simp only [Bool.and_eq_true, ho] at h1
          have h2 := List.all_eq_true.1 h1.2 j (List.mem_range.2 hjl)
          have hoj' : ops[j]? = some oj := by simpa using hoj
          simp only [hoj', Bool.or_eq_true, Bool.and_eq_true, Bool.not_eq_true'] at h2
          rcases h2 with (h2 | h2) | h2 | h2
          · exact absurd (Nat.eq_of_beq_eq_true h2) hji
          · have := hall j (by have := h2.1; rw [Nat.blt_eq] at this; exact this) h2.2
            rw [this] at hju; cases hju
          · obtain ⟨e, he, hb'⟩ := List.any_eq_true.1 h2
            simp only [Bool.and_eq_true] at hb'
            exact absurd (Nat.eq_of_beq_eq_true hb'.2) (hno e (by simpa using he) hb'.1)
          · exact h2
        · exact mem_ready.2 ⟨hiu, o, by simpa using ho, hdep⟩
        · rw [putAll_fr]
          exact Or.inl ⟨by rw [fr_wanted]; exact hw1, fun w => by rw [fr_eval]; exact hw2 w⟩
        · have hot : (ops.take m)[i]? = some o := by rw [List.getElem?_take_of_lt him]; exact ho
          have hp := putAll_put v (ops.take m) 0 f (fr n l) hd i o hot
          rw [Nat.zero_add] at hp
          rw [hp]
          have h1 : listed.toList[i]? = some false := by
            have h' : i < listed.size := by omega
            simp [h'] at hiu; simp [h', hiu]
          have hcs := count_set _ _ h1
          refine ih fuel _ (upd f i v) w ?_ (by omega) (by simpa using hz) (hsh.step ho hdep) (fun j h1 h2 => ?_) (fun j h1 h2 => ?_) hW (fun j hj hlj => ?_)
          · simp only [Array.toList_setIfInBounds]; omega
          · rw [getD_set_ne true (by omega)]; exact hun j h1 h2
          · have hij : i ≠ j := by intro e; subst e; have : fs.contains i = true := by simpa using hif
                                   rw [this] at h2; cases h2
            rw [getD_set_ne true hij]; exact hall j h1 h2
          · by_cases e : j = i
            · subst e; rw [hv]; simp [upd, vq]
            · rw [getD_set_ne false (Ne.symm e)] at hlj
              have := hR j hj hlj
              simpa [upd, e] using this
  have main : ∀ (fuel : Nat) (listed : Array Bool) (f : Nat → Value) (w : World), listed.toList.count false ≤ fuel → listed.size = ops.length → Shut ops listed → (∀ j, m ≤ j → j < ops.length → listed.getD j true = false) →
      G w → (∀ i, i < m → listed.getD i false = true → spQ sp i (f i) w) → wpAny P .any ops.toArray Q fuel listed (putAll f 0 (ops.take m) (fr n l)) w := by
    intro fuel
    induction fuel with
    | zero =>
      intro listed f w hcnt hz hsh hun hW hR
      refine wpAny_chain hfs hc hb (ops.length - m) m 0 listed _ w (by omega) (Nat.le_refl _) ?_ hz hsh ?_ ?_
      · rcases Nat.lt_or_ge m ops.length with h | h
        · exfalso
          have h1 := hun m (Nat.le_refl _) h
          have h2 : m < listed.size := by omega
          have : false ∈ listed.toList := by simp [h2] at h1; rw [← h1]; simp
          have := List.count_pos_iff.2 this
          omega
        · omega
      · intro j hj
        have h2 : j < listed.size := by omega
        have h3 : listed.getD j true = true := by
          cases e : listed.getD j true with
          | true => rfl
          | false =>
            have : false ∈ listed.toList := by simp [h2] at e; rw [← e]; simp
            have := List.count_pos_iff.2 this
            omega
        rcases Nat.lt_or_ge j m with h | h
        · rw [h3]; simp [h]
        · rw [hun j h hj] at h3; cases h3
      · rw [putAll_fr]
        refine (hend f w hW (fun i hi => hR i (by rw [Nat.blt_eq] at hi; exact hi) ?_)).out
        have hi' : i < m := by rw [Nat.blt_eq] at hi; exact hi
        have h2 : i < listed.size := by omega
        cases e : listed.getD i false with
        | true => rfl
        | false =>
          have : false ∈ listed.toList := by simp [h2] at e; rw [← e]; simp
          have := List.count_pos_iff.2 this
          omega
    | succ fuel ih =>
      intro listed f w hcnt hz hsh hun hW hR
      by_cases hall : ∀ j, j < m → fs.contains j = false → listed.getD j true = true
      · have hge : ops.length - m ≤ listed.toList.count false := by
          have h1 : (listed.toList.drop m).count false = ops.length - m := by
            have h2 : listed.toList.drop m = List.replicate (ops.length - m) false := by
              apply List.ext_getElem
              · simp [hz]
              · intro j h3 h4
                simp at h3
                have := hun (m + j) (by omega) (by omega)
                have h5 : m + j < listed.size := by omega
                simpa [h5] using this
            rw [h2]; simp
          have h3 := List.take_append_drop m listed.toList
          rw [← h3, List.count_append]
          omega
        exact second (listed.toList.count false - (ops.length - m)) _ listed f w (by omega) (by omega) hz hsh hun hall hW hR
      · obtain ⟨u, hum, huf, hu⟩ : ∃ u, u < m ∧ fs.contains u = false ∧ listed.getD u true = false := by
          rcases Classical.not_forall.1 hall with ⟨u, h⟩
          rcases Classical.not_imp.1 h with ⟨h1, h2⟩
          rcases Classical.not_imp.1 h2 with ⟨h3, h4⟩
          exact ⟨u, h1, h3, by cases e : listed.getD u true with | true => exact absurd e h4 | false => rfl⟩
        have hne : Region.ready .any ops.toArray listed ≠ [] := fun hr => by
          have := all_listed hb hr u (by simp; omega)
          rw [hu] at this; cases this
        refine ⟨fun h0 => absurd h0 hne, fun i hi => ?_⟩
        obtain ⟨h0, o, ho, hdep⟩ := mem_ready.1 hi
        have hoi : ops[i]? = some o := by simpa using ho
        have hilt : i < ops.length := (List.getElem?_eq_some_iff.1 hoi).1
        have him : i < m := by
          rcases Nat.lt_or_ge i m with h | h
          · exact h
          · exfalso
            have h1 := chainB_spec hc hsh hoi h hdep u (by omega) huf
            have h2 : u < listed.size := by omega
            simp [h2] at h1 hu
            rw [h1] at hu; cases hu
        have hot : (ops.take m)[i]? = some o := by rw [List.getElem?_take_of_lt him]; exact hoi
        have hstep := Each.spec (ops.take m) 0 hs i o hot
        rw [Nat.zero_add] at hstep
        have hcount : ((listed.setIfInBounds i true).toList.count false) ≤ fuel := by
          have h1 : listed.toList[i]? = some false := by
            have h' : i < listed.size := by omega
            simp [h'] at h0; simp [h', h0]
          have := count_set _ _ h1
          simp only [Array.toList_setIfInBounds]
          omega
        have hun' : ∀ j, m ≤ j → j < ops.length → (listed.setIfInBounds i true).getD j true = false := fun j h1 h2 => by
          rw [getD_set_ne true (by omega)]; exact hun j h1 h2
        have next : ∀ v w', G w' → spQ sp i v w' → (∀ j u, j ≠ i → spQ sp j u w → spQ sp j u w') → wpAny P .any ops.toArray Q fuel (listed.setIfInBounds i true) (putAll (upd f i v) 0 (ops.take m) (fr n l)) w' := fun v w' hg hden hot' => by
          refine ih _ _ w' hcount (by simpa using hz) (hsh.step hoi hdep) hun' hg (fun j hj hlj => ?_)
          by_cases e : j = i
          · subst e; simpa [upd] using hden
          · rw [getD_set_ne false (Ne.symm e)] at hlj
            have := hot' j (f j) e (hR j hj hlj)
            simpa [upd, e] using this
        have put : ∀ v, fr n (ext (asg f 0 (ops.take m) l) o.dst v) = putAll (upd f i v) 0 (ops.take m) (fr n l) := fun v => by
          have := putAll_put v (ops.take m) 0 f (fr n l) hd i o hot
          rw [Nat.zero_add] at this
          rw [← this, putAll_fr, fr_put]
        refine wpOp_step ho (fun K hK => ?_)
        rw [putAll_fr, fr_wanted]
        have hh := (hstep.out f w hW (fun j hj => by
          obtain ⟨e, he, hb'⟩ := List.any_eq_true.1 hj
          simp only [Bool.and_eq_true] at hb'
          have heon := Nat.eq_of_beq_eq_true hb'.2
          have hj' := hdep e (by simpa using he) hb'.1
          have hlt := edgesBack_spec hb ho e (by simpa using he) hb'.1
          rw [heon] at hj' hlt
          exact hR j (by omega) hj') K (fun v w' h1 h2 h3 => by rw [put]; exact hK _ _ (next v w' h1 h2 h3))).out
        rw [fr_put]
        rcases hh with ⟨h1, h2⟩ | ⟨h1, h2⟩
        · rw [h1]; exact h2.out
        · rw [h1]; exact h2
  have h0 : putAll (slots (fr n l) (ops.take m).toArray) 0 (ops.take m) (fr n l) = fr n l := putAll_self _ _ 0 _ (fun i o ho t ht => by simp only [Nat.zero_add, slots]; rw [show (ops.take m).toArray[i]? = some o by simpa using ho]; simp [ht])
  have := main ops.length (Array.replicate ops.length false) (slots (fr n l) (ops.take m).toArray) w.drew (by simp) (by simp) (Shut.start _ _) (fun j _ hj => by simp [hj]) hG (fun i _ hi => by
    exfalso
    rcases Nat.lt_or_ge i ops.length with h' | h' <;> simp [h'] at hi)
  rw [h0] at this
  simpa using this
theorem w_ogc {id : Nat} {ops : List Oper} (m : Nat) (G : World → Prop) (sp : List (Value → World → Prop)) (fs : List Nat) (hm : P.follows .mixedOrders = true)
  (hb : edgesBack .any ops.toArray = true) (hd : dstsApart (ops.take m) = true) (hc : chainB ops m fs = true) (hl : Nat.ble m ops.length = true) (hf : floatB ops m fs = true) (hns : Region.noSelect ops.toArray = true)
  (hlate : ∀ i, i ∈ fs → LateC P ops Q n l m sp i) (hG : G w.drew) (hs : Each (OgC P ops Q n l m G sp) 0 (ops.take m))
  (hend : ∀ f w', G w' → (∀ i, Nat.blt i m = true → spQ sp i (f i) w') → WL P ops.toArray Q (ops.drop m) n (asg f 0 (ops.take m) l) w') : WC P (Code.region id ops.toArray true) Q n l w :=
 ⟨wp_region_any hm (a_ogc m G sp fs hb hd hc hl hf hns hlate hG hs hend)⟩
theorem latec_nil {ops : List Oper} {m : Nat} {sp : List (Value → World → Prop)} : ∀ i, i ∈ ([] : List Nat) → LateC P ops Q n l m sp i := fun _ h => by cases h
variable {o : Oper}
theorem oc_eq {ol : List Oper} {m : Nat} {G : World → Prop} {sp : List (Value → World → Prop)} {i : Nat} (v : Value) (hs : spQ sp i = vq v) (hg : ∀ w w', G w → Mo w w' → G w') (hm : Smos sp)
  (h : ∀ f w, G w → (∀ j, depb o j = true → spQ sp j (f j) w) → ∀ K : Act → World → Prop, (∀ w', Mo w w' → K (fr n (ext (asg f 0 (ol.take m) l) o.dst v)) w') → Go1 P ol Q n (asg f 0 (ol.take m) l) w K o) : OgC P ol Q n l m G sp i o :=
 ⟨fun f w hG hd K hK => h f w hG hd K (fun w' hmo => hK v w' (hg w w' hG hmo) (by rw [hs]; rfl) (fun j u _ hr => hm j u w w' hr hmo))⟩
end
end Go.Proofs.YtogomodbcjpfiaaGreatDoor

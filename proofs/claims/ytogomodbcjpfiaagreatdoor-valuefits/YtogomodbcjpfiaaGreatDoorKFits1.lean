/-
  A part of the proof.
-/
import Derived.Test.YtogomodbcjpfiaaGreatDoorKa12
import Derived.Test.YtogomodbcjpfiaaGreatDoorKa9
import Derived.Test.YtogomodbcjpfiaaGreatDoorKa8
import Derived.Test.YtogomodbcjpfiaaGreatDoorKb3
import Derived.Test.YtogomodbcjpfiaaGreatDoorKb2
import Derived.Test.YtogomodbcjpfiaaGreatDoorKa5
import Derived.Test.YtogomodbcjpfiaaGreatDoorKb1
import Derived.Test.YtogomodbcjpfiaaGreatDoorKa4
import Derived.Test.YtogomodbcjpfiaaGreatDoorKa1
import Derived.Test.YtogomodbcjpfiaaGreatDoorProg
import Derived.WalkKit
import Derived.WalkSpells
import Derived.Handy
import Derived.BigQuiet
import Derived.Deep.RegionHeld3
import Derived.Shelf.Small.Bits
import Derived.Shelf.Strconv.Itoa0
import Derived.Shelf.Bits.Mul64
import Derived.Deep.CutBlock
import Derived.Deep.CutRange
import Derived.Test.YtogomodbcjpfiaaGreatDoorKa7
import Derived.Test.YtogomodbcjpfiaaGreatDoorKa6
import Derived.ChangeKeysEq
import Derived.ScopeJumps
import Derived.WalkMore
import Derived.Laws.StructEq
import Derived.Deep.MidRow
import Derived.Test.YtogomodbcjpfiaaGreatDoorKa13
import Derived.Test.YtogomodbcjpfiaaGreatDoorKa14
import Derived.Test.YtogomodbcjpfiaaGreatDoorKa11
import Derived.Test.YtogomodbcjpfiaaGreatDoorKa3
import Derived.Test.YtogomodbcjpfiaaGreatDoorKa2
import Derived.RegionTactic
import Derived.BigCall
import Derived.Test.YtogomodbcjpfiaaGreatDoorKa10
import Derived.Test.YtogomodbcjpfiaaGreatDoorKb5
import Derived.Test.YtogomodbcjpfiaaGreatDoorKb4
import Derived.Test.YtogomodbcjpfiaaGreatDoorKa17
import Derived.Test.YtogomodbcjpfiaaGreatDoorKb6
import Derived.Test.YtogomodbcjpfiaaGreatDoorKa16
import Derived.Test.YtogomodbcjpfiaaGreatDoorKa15
import Derived.Shelf.Strings.Builder1
import Derived.Shelf.Strings.Builder2
import Derived.Shelf.Small.Wraps
import Derived.Shelf.Strings.BuilderF
import Derived.Shelf.Strings.BuilderK
import Derived.Shelf.Strings.Prefix
import Derived.Shelf.Strings.Repeat
import Derived.Lib.CutLaws
import Derived.Lib.IndexBytes
import Derived.Maps.OwnSet
import Derived.WalkArith
import Derived.StringKeys
import Derived.Test.YtogomodbcjpfiaaGreatDoorKa18
import Derived.Test.YtogomodbcjpfiaaGreatDoorKa19
import Derived.Test.YtogomodbcjpfiaaGreatDoorKb7
import Derived.Test.YtogomodbcjpfiaaGreatDoorKa21
import Derived.Test.YtogomodbcjpfiaaGreatDoorKb8
import Derived.Test.YtogomodbcjpfiaaGreatDoorRows
import Derived.Test.YtogomodbcjpfiaaGreatDoorKa20
import Derived.Maps.AppendAt
import Derived.Deep.AppendLies
import Derived.Laws.BytesString
import Derived.Carry
import Derived.ChangeMaps5
import Derived.ChangeSame
import Derived.ChangeVars
import Derived.JoinedOf
import Derived.RowKitTokens
import Derived.LaidLaws
import Derived.LaidHandle
import Derived.Stop.Joined
import Derived.Lib.LaidIn
import Derived.WideKeyArgs
import Derived.Deep.Strs
namespace Go.Proofs.YtogomodbcjpfiaaGreatDoor
open Go.RowKit
theorem cr_no (s p : Int) (w : World) (h : sc s = false) : Calls Tryz.prog 90 #[.int .i64 s, .int .i64 p] w fun e w' => e = .returned (.int .i64 21) ∧ Mo w w' := by
 go_enter Tryz.func90, Tryz.ntmps90
 go_wp2_with fail
 refine (isScale_n s _).mono ?_
 rintro e w1 ⟨rfl, hm1⟩
 go_wp2
 go_ret
 exact ⟨rfl, hm1⟩
set_option maxHeartbeats 4000000 in
theorem cr_pol (s p : Int) (w : World) (h : sc s = true) (hp : p < 1 ∨ 5 < p) : Calls Tryz.prog 90 #[.int .i64 s, .int .i64 p] w fun e w' => e = .returned (.int .i64 22) ∧ Mo w w' := by
 have h1 : (p == 1) = false := by simp; omega
 have h2 : (p == 2) = false := by simp; omega
 have h3 : (p == 3) = false := by simp; omega
 have h4 : (p == 4) = false := by simp; omega
 have h5 : (p == 5) = false := by simp; omega
 clear hp
 go_enter Tryz.func90, Tryz.ntmps90
 go_wp2_with fail
 refine (isScale_n s _).mono ?_
 rintro e w1 ⟨rfl, hm1⟩
 go_wp2
 go_ret
 exact ⟨rfl, hm1⟩
end Go.Proofs.YtogomodbcjpfiaaGreatDoor

namespace Go.Proofs.YtogomodbcjpfiaaGreatDoor
open Go.RowKit
set_option maxHeartbeats 4000000 in
theorem mulTo_e2 (b c : Bool) (n m s t S p : Int) (w : World) (hn0 : 0 ≤ n) (hn : n < MM) (hm0 : 0 ≤ m) (hm : m < MM) (h1 : ck b n s = 0) (h2 : ck c m t = 0) (hS : sc S = false) :
  Calls Tryz.prog 61 #[dc b n s, dc c m t, .int .i64 S, .int .i64 p] w fun e w' => e = .returned (er 21) ∧ Mo w w' := by
 go_enter Tryz.func61, Tryz.ntmps61
 go_wp2_with fail
 refine (both_ok b n s c m t _ hn0 hn hm0 hm h1 h2).mono ?_
 rintro e w1 ⟨rfl, hm1⟩
 have mz : Mo w w1 := Mo.trans (by repeat (first | with_reducible exact Mo.refl _ | with_reducible apply Mo.drew | with_reducible apply Mo.alloc)) hm1
 have M := mz
 have Qa : AtD w1 (w.heap.size) b n s := AtD.mo ⟨by simp [go_sem], fun o => by simp [go_sem], by simp <;> omega⟩ hm1
 have Qb : AtD w1 (w.heap.size + 1) c m t := AtD.mo ⟨by simp [go_sem], fun o => by simp [go_sem], by simp <;> omega⟩ hm1
 have Qr : AtD w1 (w.heap.size + 1 + 1) false 0 0 := AtD.mo ⟨by simp [go_sem, zl0, zl1, zl2, zl3], fun o => by simp [go_sem], by simp <;> omega⟩ hm1
 clear hm1 mz
 have Oa := Qa
 obtain ⟨⟨ca0, ca1, ca2, ca3, ca4, ca5⟩, fa, sa⟩ := Oa
 have fa := fun o => fa o
 have sxa : w.heap.size < w1.heap.size + 1 := by omega
 have sya : w.heap.size < w1.heap.size + 1 + 1 := by omega
 have Ob := Qb
 obtain ⟨⟨cb0, cb1, cb2, cb3, cb4, cb5⟩, fb, sb⟩ := Ob
 have fb := fun o => fb o
 have sxb : w.heap.size + 1 < w1.heap.size + 1 := by omega
 have syb : w.heap.size + 1 < w1.heap.size + 1 + 1 := by omega
 have Or := Qr
 obtain ⟨⟨cr0, cr1, cr2, cr3, cr4, cr5⟩, fr, sr⟩ := Or
 have fr := fun o => fr o
 have sxr : w.heap.size + 1 + 1 < w1.heap.size + 1 := by omega
 have syr : w.heap.size + 1 + 1 < w1.heap.size + 1 + 1 := by omega
 go_wp2_with fail
 refine (cr_no S p _ hS).mono ?_
 rintro e w2 ⟨rfl, hm2⟩
 have mz : Mo w1 w2 := Mo.trans (by repeat (first | with_reducible exact Mo.refl _ | with_reducible apply Mo.drew | with_reducible apply Mo.alloc)) hm2
 have zw1a := sa
 have zw1b := sb
 have zw1r := sr
 clear ca0 ca1 ca2 ca3 ca4 ca5 fa sa sxa sya cb0 cb1 cb2 cb3 cb4 cb5 fb sb sxb syb cr0 cr1 cr2 cr3 cr4 cr5 fr sr sxr syr
 have Qa := Qa.mo mz
 have Qb := Qb.mo mz
 have Qr := Qr.mo mz
 have M := M.trans mz
 clear hm2 mz
 have Oa := Qa
 obtain ⟨⟨ca0, ca1, ca2, ca3, ca4, ca5⟩, fa, sa⟩ := Oa
 have fa := fun o => fa o
 have sxa : w.heap.size < w2.heap.size + 1 := by omega
 have sya : w.heap.size < w2.heap.size + 1 + 1 := by omega
 have Ob := Qb
 obtain ⟨⟨cb0, cb1, cb2, cb3, cb4, cb5⟩, fb, sb⟩ := Ob
 have fb := fun o => fb o
 have sxb : w.heap.size + 1 < w2.heap.size + 1 := by omega
 have syb : w.heap.size + 1 < w2.heap.size + 1 + 1 := by omega
 have Or := Qr
 obtain ⟨⟨cr0, cr1, cr2, cr3, cr4, cr5⟩, fr, sr⟩ := Or
 have fr := fun o => fr o
 have sxr : w.heap.size + 1 + 1 < w2.heap.size + 1 := by omega
 have syr : w.heap.size + 1 + 1 < w2.heap.size + 1 + 1 := by omega
 go_wp2
 refine bodyPost_ret (v := er 21) (by simp [results, Tryz.results61, go_sem, *]) rfl ?_
 refine ⟨rfl, ?_⟩
 repeat (first | with_reducible exact M | with_reducible exact Mo.refl _ | with_reducible apply Mo.drew | with_reducible apply Mo.drewN | with_reducible apply Mo.alloc | with_reducible refine Mo.setCell ?_ (by simp <;> omega) _)
set_option maxHeartbeats 4000000 in
theorem mulTo_e3 (b c : Bool) (n m s t S p : Int) (w : World) (hn0 : 0 ≤ n) (hn : n < MM) (hm0 : 0 ≤ m) (hm : m < MM) (h1 : ck b n s = 0) (h2 : ck c m t = 0) (hS : sc S = true) (hp : p < 1 ∨ 5 < p) :
  Calls Tryz.prog 61 #[dc b n s, dc c m t, .int .i64 S, .int .i64 p] w fun e w' => e = .returned (er 22) ∧ Mo w w' := by
 go_enter Tryz.func61, Tryz.ntmps61
 go_wp2_with fail
 refine (both_ok b n s c m t _ hn0 hn hm0 hm h1 h2).mono ?_
 rintro e w1 ⟨rfl, hm1⟩
 have mz : Mo w w1 := Mo.trans (by repeat (first | with_reducible exact Mo.refl _ | with_reducible apply Mo.drew | with_reducible apply Mo.alloc)) hm1
 have M := mz
 have Qa : AtD w1 (w.heap.size) b n s := AtD.mo ⟨by simp [go_sem], fun o => by simp [go_sem], by simp <;> omega⟩ hm1
 have Qb : AtD w1 (w.heap.size + 1) c m t := AtD.mo ⟨by simp [go_sem], fun o => by simp [go_sem], by simp <;> omega⟩ hm1
 have Qr : AtD w1 (w.heap.size + 1 + 1) false 0 0 := AtD.mo ⟨by simp [go_sem, zl0, zl1, zl2, zl3], fun o => by simp [go_sem], by simp <;> omega⟩ hm1
 clear hm1 mz
 have Oa := Qa
 obtain ⟨⟨ca0, ca1, ca2, ca3, ca4, ca5⟩, fa, sa⟩ := Oa
 have fa := fun o => fa o
 have sxa : w.heap.size < w1.heap.size + 1 := by omega
 have sya : w.heap.size < w1.heap.size + 1 + 1 := by omega
 have Ob := Qb
 obtain ⟨⟨cb0, cb1, cb2, cb3, cb4, cb5⟩, fb, sb⟩ := Ob
 have fb := fun o => fb o
 have sxb : w.heap.size + 1 < w1.heap.size + 1 := by omega
 have syb : w.heap.size + 1 < w1.heap.size + 1 + 1 := by omega
 have Or := Qr
 obtain ⟨⟨cr0, cr1, cr2, cr3, cr4, cr5⟩, fr, sr⟩ := Or
 have fr := fun o => fr o
 have sxr : w.heap.size + 1 + 1 < w1.heap.size + 1 := by omega
 have syr : w.heap.size + 1 + 1 < w1.heap.size + 1 + 1 := by omega
 go_wp2_with fail
 refine (cr_pol S p _ hS hp).mono ?_
 rintro e w2 ⟨rfl, hm2⟩
 have mz : Mo w1 w2 := Mo.trans (by repeat (first | with_reducible exact Mo.refl _ | with_reducible apply Mo.drew | with_reducible apply Mo.alloc)) hm2
 have zw1a := sa
 have zw1b := sb
 have zw1r := sr
 clear ca0 ca1 ca2 ca3 ca4 ca5 fa sa sxa sya cb0 cb1 cb2 cb3 cb4 cb5 fb sb sxb syb cr0 cr1 cr2 cr3 cr4 cr5 fr sr sxr syr
 have Qa := Qa.mo mz
 have Qb := Qb.mo mz
 have Qr := Qr.mo mz
 have M := M.trans mz
 clear hm2 mz
 have Oa := Qa
 obtain ⟨⟨ca0, ca1, ca2, ca3, ca4, ca5⟩, fa, sa⟩ := Oa
 have fa := fun o => fa o
 have sxa : w.heap.size < w2.heap.size + 1 := by omega
 have sya : w.heap.size < w2.heap.size + 1 + 1 := by omega
 have Ob := Qb
 obtain ⟨⟨cb0, cb1, cb2, cb3, cb4, cb5⟩, fb, sb⟩ := Ob
 have fb := fun o => fb o
 have sxb : w.heap.size + 1 < w2.heap.size + 1 := by omega
 have syb : w.heap.size + 1 < w2.heap.size + 1 + 1 := by omega
 have Or := Qr
 obtain ⟨⟨cr0, cr1, cr2, cr3, cr4, cr5⟩, fr, sr⟩ := Or
 have fr := fun o => fr o
 have sxr : w.heap.size + 1 + 1 < w2.heap.size + 1 := by omega
 have syr : w.heap.size + 1 + 1 < w2.heap.size + 1 + 1 := by omega
 go_wp2
 refine bodyPost_ret (v := er 22) (by simp [results, Tryz.results61, go_sem, *]) rfl ?_
 refine ⟨rfl, ?_⟩
 repeat (first | with_reducible exact M | with_reducible exact Mo.refl _ | with_reducible apply Mo.drew | with_reducible apply Mo.drewN | with_reducible apply Mo.alloc | with_reducible refine Mo.setCell ?_ (by simp <;> omega) _)
end Go.Proofs.YtogomodbcjpfiaaGreatDoor

namespace Go.Proofs.YtogomodbcjpfiaaGreatDoor
open Go.RowKit
set_option maxHeartbeats 4000000 in
theorem rescale_ok (b : Bool) (n s S p : Int) (V : Int) (w : World) (hmt : ∀ w, Calls Tryz.prog 61 #[dc b n s, dc false 1 0, .int .i64 S, .int .i64 p] w fun e' w' => e' = .returned (.tuple #[dz V S, .int .i64 0]) ∧ Mo w w') :
  Calls Tryz.prog 51 #[dc b n s, .int .i64 S, .int .i64 p] w fun e' w' => e' = .returned (.tuple #[dz V S, .int .i64 0]) ∧ Mo w w' := by
 go_enter Tryz.func51, Tryz.ntmps51
 have a : Mo w ((((w).alloc (.cells #[.bool b, .int .u64 (l0 (n)), .int .u64 (l1 (n)), .int .u64 (l2 (n)), .int .u64 (l3 (n)), .int .i64 (s)] 26))).alloc (.cells #[.bool false, .int .u64 0, .int .u64 0, .int .u64 0, .int .u64 0, .int .i64 0] 26)) := by repeat (first | with_reducible exact Mo.refl _ | with_reducible apply Mo.alloc)
 have M := a
 have Qa : AtD ((((w).alloc (.cells #[.bool b, .int .u64 (l0 (n)), .int .u64 (l1 (n)), .int .u64 (l2 (n)), .int .u64 (l3 (n)), .int .i64 (s)] 26))).alloc (.cells #[.bool false, .int .u64 0, .int .u64 0, .int .u64 0, .int .u64 0, .int .i64 0] 26)) (w.heap.size) b n s := ⟨by simp [go_sem], fun o => by simp [go_sem], by simp <;> omega⟩
 have Qr : AtD ((((w).alloc (.cells #[.bool b, .int .u64 (l0 (n)), .int .u64 (l1 (n)), .int .u64 (l2 (n)), .int .u64 (l3 (n)), .int .i64 (s)] 26))).alloc (.cells #[.bool false, .int .u64 0, .int .u64 0, .int .u64 0, .int .u64 0, .int .i64 0] 26)) (w.heap.size + 1) false 0 0 := ⟨by simp [go_sem, zl0, zl1, zl2, zl3], fun o => by simp [go_sem], by simp <;> omega⟩
 clear a
 go_upto_region 1 with fail
 generalize ((((w).alloc (.cells #[.bool b, .int .u64 (l0 (n)), .int .u64 (l1 (n)), .int .u64 (l2 (n)), .int .u64 (l3 (n)), .int .i64 (s)] 26))).alloc (.cells #[.bool false, .int .u64 0, .int .u64 0, .int .u64 0, .int .u64 0, .int .i64 0] 26)) = W0 at *
 have Oa := Qa
 obtain ⟨⟨ca0, ca1, ca2, ca3, ca4, ca5⟩, fa, sa⟩ := Oa
 have fa := fun o => fa o
 have sxa : w.heap.size < W0.heap.size + 1 := by omega
 have sya : w.heap.size < W0.heap.size + 1 + 1 := by omega
 have Or := Qr
 obtain ⟨⟨cr0, cr1, cr2, cr3, cr4, cr5⟩, fr, sr⟩ := Or
 have fr := fun o => fr o
 have sxr : w.heap.size + 1 < W0.heap.size + 1 := by omega
 have syr : w.heap.size + 1 < W0.heap.size + 1 + 1 := by omega
 go_region_with
  (first | (go_at_call 72; refine (from20_any 1 _ ⟨by decide, by decide⟩).mono ?_; rintro e' w1 ⟨rfl, hm1⟩; have m1 : Mo W0 w1 := Mo.trans (by repeat (first | with_reducible exact Mo.refl _ | with_reducible apply Mo.drew | with_reducible apply Mo.alloc)) hm1; obtain ⟨⟨x0, x1, x2, x3, x4, x5⟩, _, xs⟩ := Qa.mo m1) | (go_at_call 61; refine (hmt _).mono ?_; rintro e' w2 ⟨rfl, hm2⟩; have m2 : Mo w1 w2 := Mo.trans (by repeat (first | with_reducible exact Mo.refl _ | with_reducible apply Mo.drew | with_reducible apply Mo.alloc)) hm2; have m3 := m1.trans m2; obtain ⟨⟨z0, z1, z2, z3, z4, z5⟩, zf, zs⟩ := Qr.mo m3; have zf := fun o => zf o))
 all_goals
  go_wp2
  have M := M.trans m3
  refine bodyPost_ret (v := .tuple #[dz V S, .int .i64 0]) (by simp [results, Tryz.results51, go_sem, *]) rfl ?_
  refine ⟨rfl, ?_⟩
  repeat (first | with_reducible exact M | with_reducible exact Mo.refl _ | with_reducible apply Mo.drew | with_reducible apply Mo.drewN | with_reducible apply Mo.alloc | with_reducible refine Mo.setCell ?_ (by simp <;> omega) _)
set_option maxHeartbeats 4000000 in
theorem rescale_er (b : Bool) (n s S p : Int) (e : Int) (w : World) (hmt : ∀ w, Calls Tryz.prog 61 #[dc b n s, dc false 1 0, .int .i64 S, .int .i64 p] w fun e' w' => e' = .returned (er e) ∧ Mo w w') :
  Calls Tryz.prog 51 #[dc b n s, .int .i64 S, .int .i64 p] w fun e' w' => e' = .returned (er e) ∧ Mo w w' := by
 go_enter Tryz.func51, Tryz.ntmps51
 have a : Mo w ((((w).alloc (.cells #[.bool b, .int .u64 (l0 (n)), .int .u64 (l1 (n)), .int .u64 (l2 (n)), .int .u64 (l3 (n)), .int .i64 (s)] 26))).alloc (.cells #[.bool false, .int .u64 0, .int .u64 0, .int .u64 0, .int .u64 0, .int .i64 0] 26)) := by repeat (first | with_reducible exact Mo.refl _ | with_reducible apply Mo.alloc)
 have M := a
 have Qa : AtD ((((w).alloc (.cells #[.bool b, .int .u64 (l0 (n)), .int .u64 (l1 (n)), .int .u64 (l2 (n)), .int .u64 (l3 (n)), .int .i64 (s)] 26))).alloc (.cells #[.bool false, .int .u64 0, .int .u64 0, .int .u64 0, .int .u64 0, .int .i64 0] 26)) (w.heap.size) b n s := ⟨by simp [go_sem], fun o => by simp [go_sem], by simp <;> omega⟩
 have Qr : AtD ((((w).alloc (.cells #[.bool b, .int .u64 (l0 (n)), .int .u64 (l1 (n)), .int .u64 (l2 (n)), .int .u64 (l3 (n)), .int .i64 (s)] 26))).alloc (.cells #[.bool false, .int .u64 0, .int .u64 0, .int .u64 0, .int .u64 0, .int .i64 0] 26)) (w.heap.size + 1) false 0 0 := ⟨by simp [go_sem, zl0, zl1, zl2, zl3], fun o => by simp [go_sem], by simp <;> omega⟩
 clear a
 go_upto_region 1 with fail
 generalize ((((w).alloc (.cells #[.bool b, .int .u64 (l0 (n)), .int .u64 (l1 (n)), .int .u64 (l2 (n)), .int .u64 (l3 (n)), .int .i64 (s)] 26))).alloc (.cells #[.bool false, .int .u64 0, .int .u64 0, .int .u64 0, .int .u64 0, .int .i64 0] 26)) = W0 at *
 have Oa := Qa
 obtain ⟨⟨ca0, ca1, ca2, ca3, ca4, ca5⟩, fa, sa⟩ := Oa
 have fa := fun o => fa o
 have sxa : w.heap.size < W0.heap.size + 1 := by omega
 have sya : w.heap.size < W0.heap.size + 1 + 1 := by omega
 have Or := Qr
 obtain ⟨⟨cr0, cr1, cr2, cr3, cr4, cr5⟩, fr, sr⟩ := Or
 have fr := fun o => fr o
 have sxr : w.heap.size + 1 < W0.heap.size + 1 := by omega
 have syr : w.heap.size + 1 < W0.heap.size + 1 + 1 := by omega
 go_region_with
  (first | (go_at_call 72; refine (from20_any 1 _ ⟨by decide, by decide⟩).mono ?_; rintro e' w1 ⟨rfl, hm1⟩; have m1 : Mo W0 w1 := Mo.trans (by repeat (first | with_reducible exact Mo.refl _ | with_reducible apply Mo.drew | with_reducible apply Mo.alloc)) hm1; obtain ⟨⟨x0, x1, x2, x3, x4, x5⟩, _, xs⟩ := Qa.mo m1) | (go_at_call 61; refine (hmt _).mono ?_; rintro e' w2 ⟨rfl, hm2⟩; have m2 : Mo w1 w2 := Mo.trans (by repeat (first | with_reducible exact Mo.refl _ | with_reducible apply Mo.drew | with_reducible apply Mo.alloc)) hm2; have m3 := m1.trans m2; obtain ⟨⟨z0, z1, z2, z3, z4, z5⟩, zf, zs⟩ := Qr.mo m3; have zf := fun o => zf o))
 all_goals
  go_wp2
  have M := M.trans m3
  refine bodyPost_ret (v := er e) (by simp [results, Tryz.results51, go_sem, *]) rfl ?_
  refine ⟨rfl, ?_⟩
  repeat (first | with_reducible exact M | with_reducible exact Mo.refl _ | with_reducible apply Mo.drew | with_reducible apply Mo.drewN | with_reducible apply Mo.alloc | with_reducible refine Mo.setCell ?_ (by simp <;> omega) _)
end Go.Proofs.YtogomodbcjpfiaaGreatDoor

namespace Go.Proofs.YtogomodbcjpfiaaGreatDoor
open Go.RowKit
theorem pw_pos (k : Int) : 0 < pw k := Int.pow_pos (by decide)
end Go.Proofs.YtogomodbcjpfiaaGreatDoor

namespace Go.Proofs.YtogomodbcjpfiaaGreatDoor
open Go.RowKit
theorem rescale_e2 (b : Bool) (n s S p : Int) (w : World) (hn0 : 0 ≤ n) (hn : n < MM) (h : ck b n s = 0) (hS : sc S = false) :
  Calls Tryz.prog 51 #[dc b n s, .int .i64 S, .int .i64 p] w fun e w' => e = .returned (er 21) ∧ Mo w w' :=
 rescale_er b n s S p 21 w (fun w => mulTo_e2 b false n 1 s 0 S p w hn0 hn (by decide) (by decide) h (by decide) hS)
theorem rescale_e3 (b : Bool) (n s S p : Int) (w : World) (hn0 : 0 ≤ n) (hn : n < MM) (h : ck b n s = 0) (hS : sc S = true) (hp : p < 1 ∨ 5 < p) :
  Calls Tryz.prog 51 #[dc b n s, .int .i64 S, .int .i64 p] w fun e w' => e = .returned (er 22) ∧ Mo w w' :=
 rescale_er b n s S p 22 w (fun w => mulTo_e3 b false n 1 s 0 S p w hn0 hn (by decide) (by decide) h (by decide) hS hp)
end Go.Proofs.YtogomodbcjpfiaaGreatDoor

namespace Go.Proofs.YtogomodbcjpfiaaGreatDoor
open Go.RowKit
theorem may_sc (s p : Int) (w : World) (h : sc s = false) : Calls Tryz.prog 73 #[.int .i64 s, .int .i64 p] w fun e w' => e = .returned (.int .i64 21) ∧ Mo w w' := by
 by_cases h1 : s < 0
 ·clear h
  go_enter Tryz.func73, Tryz.ntmps73
  go_wp2
  go_ret
  exact ⟨rfl, Mo.refl _⟩
 ·have h2 : 18 < s := by
   unfold sc at h
   rw [decide_eq_true (p := 0 ≤ s) (by omega)] at h
   simp at h
   exact h
  clear h
  go_enter Tryz.func73, Tryz.ntmps73
  go_wp2
  go_ret
  exact ⟨rfl, Mo.refl _⟩
theorem may_pol (s p : Int) (w : World) (h : sc s = true) (hp : p < 1 ∨ 5 < p) : Calls Tryz.prog 73 #[.int .i64 s, .int .i64 p] w fun e w' => e = .returned (.int .i64 22) ∧ Mo w w' := by
 obtain ⟨h1, h2⟩ := sc_iff.1 h
 clear h
 by_cases h3 : p < 1
 ·clear hp
  go_enter Tryz.func73, Tryz.ntmps73
  go_wp2
  go_ret
  exact ⟨rfl, Mo.refl _⟩
 ·have h4 : 5 < p := by omega
  clear hp
  go_enter Tryz.func73, Tryz.ntmps73
  go_wp2
  go_ret
  exact ⟨rfl, Mo.refl _⟩
end Go.Proofs.YtogomodbcjpfiaaGreatDoor

namespace Go.Proofs.YtogomodbcjpfiaaGreatDoor
open Go.RowKit
theorem rresc_e2 (b : Bool) (n s S p : Int) (w : World) (hn0 : 0 ≤ n) (hn : n < MM) (h : ck b n s = 0) (hS : sc S = false) :
  Calls Tryz.prog 52 #[dc b n s, .int .i64 S, .int .i64 p] w fun e' w' => e' = .returned (er 21) ∧ Mo w w' := by
 refine w_enter 35 Tryz.func52 Tryz.ntmps52 rfl rfl ?_
 have M : Mo w w := Mo.refl _
 refine w_seq (w_reg ?_)
 refine wl_box 26 (.tmp 0) (dc b (n) (s)) ((dcr b (n) (s))) rfl rfl (fun _ => by kernel_rfl) rfl ?_
 intro k1 w1 hk hz hq Q1
 have N_k1 : w.heap.size ≤ k1 := by have := M.size; omega
 replace M := M.trans hq
 clear hk hz hq
 refine wl_alloc 26 #[.bool false, .int .u64 0, .int .u64 0, .int .u64 0, .int .u64 0, .int .i64 0] rfl (fun _ => by kernel_rfl) rfl ?_
 intro k2 w2 hk hz hq Q2
 have ne_k1_k2 : k1 ≠ k2 := by have := Q1.lt; omega
 have N_k2 : w.heap.size ≤ k2 := by have := M.size; omega
 replace Q1 := Q1.mo hq
 replace M := M.trans hq
 clear hk hz hq
 refine wl_m (.const (.int .i64 (0))) (.int .i64 (0)) ?_
 refine w_nil (xn_then (w_seq (w_seq (w_reg ?_))))
 refine wl_l 26 (.tmp 3) (pt k1 0) (dc b (n) (s)) (run_row Q1 26 0 6 (dcl b (n) (s)) rfl Tryz.underlying26 rfl sz40) ?_
 refine wl_call 42 [(.tmp 10)] _ [dc b (n) (s)] (.int .i64 (0)) rfl rfl (fun _ _ => by kernel_rfl) (rcheck_ok b n s _ hn0 hn h) rfl ?_
 intro w3 hq
 replace Q1 := Q1.mo hq
 replace Q2 := Q2.mo hq
 replace M := M.trans hq
 clear hq
 refine wl_m (.tmp 11) (.int .i64 (0)) ?_
 refine w_nil (xn_then (w_seq (w_reg ?_)))
 refine wl_m (.tmp 8) (.int .i64 (0)) ?_
 refine wl_b .neq 32 (.tmp 12) (.const (.int .i64 (0))) (.int .i64 (0)) (.int .i64 (0)) (.bool false) (by kernel_rfl) ?_
 refine w_nil (xn_then (w_condF rfl (w_skip (xn_then (w_seq (w_seq (w_reg ?_)))))))
 refine wl_m (.tmp 1) (.int .i64 S) ?_
 refine wl_m (.tmp 2) (.int .i64 p) ?_
 refine wl_call 73 [(.tmp 16), (.tmp 17)] _ [.int .i64 S, .int .i64 p] (.int .i64 (21)) rfl rfl (fun _ _ => by kernel_rfl) (may_sc S p _ hS) rfl ?_
 intro w4 hq
 replace Q1 := Q1.mo hq
 replace Q2 := Q2.mo hq
 replace M := M.trans hq
 clear hq
 refine wl_m (.tmp 18) (.int .i64 (21)) ?_
 refine w_nil (xn_then (w_seq (w_reg ?_)))
 refine wl_m (.tmp 9) (.int .i64 (21)) ?_
 refine wl_b .neq 32 (.tmp 19) (.const (.int .i64 (0))) (.int .i64 (21)) (.int .i64 (0)) (.bool true) (by kernel_rfl) ?_
 refine w_nil (xn_then (w_condT rfl (w_seq (w_reg ?_))))
 refine wl_build 26 [] [] (.agg #[.bool false, .int .u64 0, .int .u64 0, .int .u64 0, .int .u64 0, .int .i64 0]) rfl rfl (by kernel_rfl) rfl ?_
 refine wl_m (.tmp 9) (.int .i64 (21)) ?_
 refine wl_st 26 (.tmp 6) (.tmp 21) k2 0 #[.bool false, .int .u64 0, .int .u64 0, .int .u64 0, .int .u64 0, .int .i64 0] _ [.bool false, .int .u64 0, .int .u64 0, .int .u64 0, .int .u64 0, .int .i64 0] Q2 rfl rfl rfl rfl rfl sz40 rfl rfl rfl ?_
 intro w5 hS Qn
 replace Q2 := Qn
 clear Qn
 replace Q1 := hS.other _ _ ne_k1_k2 Q1
 replace M := hS.mo _ N_k2 M
 clear hS
 refine wl_m (.tmp 22) (.int .i64 (21)) ?_
 refine w_nil (xn_then (w_ret (xr_then ?_)))
 exact w_ret2 _ _ (.agg #[.bool false, .int .u64 0, .int .u64 0, .int .u64 0, .int .u64 0, .int .i64 0]) (.int .i64 (21)) rfl ⟨k2, rfl, (run_row Q2 26 0 6 _ rfl Tryz.underlying26 rfl sz40)⟩ rfl ⟨rfl, M⟩
theorem rresc_e3 (b : Bool) (n s S p : Int) (w : World) (hn0 : 0 ≤ n) (hn : n < MM) (h : ck b n s = 0) (hS : sc S = true) (hp : p < 1 ∨ 5 < p) :
  Calls Tryz.prog 52 #[dc b n s, .int .i64 S, .int .i64 p] w fun e' w' => e' = .returned (er 22) ∧ Mo w w' := by
 refine w_enter 35 Tryz.func52 Tryz.ntmps52 rfl rfl ?_
 have M : Mo w w := Mo.refl _
 refine w_seq (w_reg ?_)
 refine wl_box 26 (.tmp 0) (dc b (n) (s)) ((dcr b (n) (s))) rfl rfl (fun _ => by kernel_rfl) rfl ?_
 intro k1 w1 hk hz hq Q1
 have N_k1 : w.heap.size ≤ k1 := by have := M.size; omega
 replace M := M.trans hq
 clear hk hz hq
 refine wl_alloc 26 #[.bool false, .int .u64 0, .int .u64 0, .int .u64 0, .int .u64 0, .int .i64 0] rfl (fun _ => by kernel_rfl) rfl ?_
 intro k2 w2 hk hz hq Q2
 have ne_k1_k2 : k1 ≠ k2 := by have := Q1.lt; omega
 have N_k2 : w.heap.size ≤ k2 := by have := M.size; omega
 replace Q1 := Q1.mo hq
 replace M := M.trans hq
 clear hk hz hq
 refine wl_m (.const (.int .i64 (0))) (.int .i64 (0)) ?_
 refine w_nil (xn_then (w_seq (w_seq (w_reg ?_))))
 refine wl_l 26 (.tmp 3) (pt k1 0) (dc b (n) (s)) (run_row Q1 26 0 6 (dcl b (n) (s)) rfl Tryz.underlying26 rfl sz40) ?_
 refine wl_call 42 [(.tmp 10)] _ [dc b (n) (s)] (.int .i64 (0)) rfl rfl (fun _ _ => by kernel_rfl) (rcheck_ok b n s _ hn0 hn h) rfl ?_
 intro w3 hq
 replace Q1 := Q1.mo hq
 replace Q2 := Q2.mo hq
 replace M := M.trans hq
 clear hq
 refine wl_m (.tmp 11) (.int .i64 (0)) ?_
 refine w_nil (xn_then (w_seq (w_reg ?_)))
 refine wl_m (.tmp 8) (.int .i64 (0)) ?_
 refine wl_b .neq 32 (.tmp 12) (.const (.int .i64 (0))) (.int .i64 (0)) (.int .i64 (0)) (.bool false) (by kernel_rfl) ?_
 refine w_nil (xn_then (w_condF rfl (w_skip (xn_then (w_seq (w_seq (w_reg ?_)))))))
 refine wl_m (.tmp 1) (.int .i64 S) ?_
 refine wl_m (.tmp 2) (.int .i64 p) ?_
 refine wl_call 73 [(.tmp 16), (.tmp 17)] _ [.int .i64 S, .int .i64 p] (.int .i64 (22)) rfl rfl (fun _ _ => by kernel_rfl) (may_pol S p _ hS hp) rfl ?_
 intro w4 hq
 replace Q1 := Q1.mo hq
 replace Q2 := Q2.mo hq
 replace M := M.trans hq
 clear hq
 refine wl_m (.tmp 18) (.int .i64 (22)) ?_
 refine w_nil (xn_then (w_seq (w_reg ?_)))
 refine wl_m (.tmp 9) (.int .i64 (22)) ?_
 refine wl_b .neq 32 (.tmp 19) (.const (.int .i64 (0))) (.int .i64 (22)) (.int .i64 (0)) (.bool true) (by kernel_rfl) ?_
 refine w_nil (xn_then (w_condT rfl (w_seq (w_reg ?_))))
 refine wl_build 26 [] [] (.agg #[.bool false, .int .u64 0, .int .u64 0, .int .u64 0, .int .u64 0, .int .i64 0]) rfl rfl (by kernel_rfl) rfl ?_
 refine wl_m (.tmp 9) (.int .i64 (22)) ?_
 refine wl_st 26 (.tmp 6) (.tmp 21) k2 0 #[.bool false, .int .u64 0, .int .u64 0, .int .u64 0, .int .u64 0, .int .i64 0] _ [.bool false, .int .u64 0, .int .u64 0, .int .u64 0, .int .u64 0, .int .i64 0] Q2 rfl rfl rfl rfl rfl sz40 rfl rfl rfl ?_
 intro w5 hS Qn
 replace Q2 := Qn
 clear Qn
 replace Q1 := hS.other _ _ ne_k1_k2 Q1
 replace M := hS.mo _ N_k2 M
 clear hS
 refine wl_m (.tmp 22) (.int .i64 (22)) ?_
 refine w_nil (xn_then (w_ret (xr_then ?_)))
 exact w_ret2 _ _ (.agg #[.bool false, .int .u64 0, .int .u64 0, .int .u64 0, .int .u64 0, .int .i64 0]) (.int .i64 (22)) rfl ⟨k2, rfl, (run_row Q2 26 0 6 _ rfl Tryz.underlying26 rfl sz40)⟩ rfl ⟨rfl, M⟩
theorem rresc_w (b : Bool) (n s S p : Int) (d0 d1 d2 d3 d4 d5 : Value) (e : Int) (w : World) (hn0 : 0 ≤ n) (hn : n < MM) (h : ck b n s = 0) (hS : sc S = true) (hp1 : 1 ≤ p) (hp5 : p ≤ 5) (hd : [d0, d1, d2, d3, d4, d5].all (·.oneCell') = true) (hrd : ∀ w, Calls Tryz.prog 74 #[.bool b, .agg #[.int .u64 0, .int .u64 0, .int .u64 0, .int .u64 0, .int .u64 (l0 n), .int .u64 (l1 n), .int .u64 (l2 n), .int .u64 (l3 n)], .int .i64 s, .int .i64 S, .int .i64 p] w fun e' w' => e' = .returned (.tuple #[.agg #[d0, d1, d2, d3, d4, d5], .int .i64 e]) ∧ Mo w w') :
  Calls Tryz.prog 52 #[dc b n s, .int .i64 S, .int .i64 p] w fun e' w' => e' = .returned (.tuple #[.agg #[d0, d1, d2, d3, d4, d5], .int .i64 e]) ∧ Mo w w' := by
 refine w_enter 35 Tryz.func52 Tryz.ntmps52 rfl rfl ?_
 have M : Mo w w := Mo.refl _
 refine w_seq (w_reg ?_)
 refine wl_box 26 (.tmp 0) (dc b (n) (s)) ((dcr b (n) (s))) rfl rfl (fun _ => by kernel_rfl) rfl ?_
 intro k1 w1 hk hz hq Q1
 have N_k1 : w.heap.size ≤ k1 := by have := M.size; omega
 replace M := M.trans hq
 clear hk hz hq
 refine wl_alloc 26 #[.bool false, .int .u64 0, .int .u64 0, .int .u64 0, .int .u64 0, .int .i64 0] rfl (fun _ => by kernel_rfl) rfl ?_
 intro k2 w2 hk hz hq Q2
 have ne_k1_k2 : k1 ≠ k2 := by have := Q1.lt; omega
 have N_k2 : w.heap.size ≤ k2 := by have := M.size; omega
 replace Q1 := Q1.mo hq
 replace M := M.trans hq
 clear hk hz hq
 refine wl_m (.const (.int .i64 (0))) (.int .i64 (0)) ?_
 refine w_nil (xn_then (w_seq (w_seq (w_reg ?_))))
 refine wl_l 26 (.tmp 3) (pt k1 0) (dc b (n) (s)) (run_row Q1 26 0 6 (dcl b (n) (s)) rfl Tryz.underlying26 rfl sz40) ?_
 refine wl_call 42 [(.tmp 10)] _ [dc b (n) (s)] (.int .i64 (0)) rfl rfl (fun _ _ => by kernel_rfl) (rcheck_ok b n s _ hn0 hn h) rfl ?_
 intro w3 hq
 replace Q1 := Q1.mo hq
 replace Q2 := Q2.mo hq
 replace M := M.trans hq
 clear hq
 refine wl_m (.tmp 11) (.int .i64 (0)) ?_
 refine w_nil (xn_then (w_seq (w_reg ?_)))
 refine wl_m (.tmp 8) (.int .i64 (0)) ?_
 refine wl_b .neq 32 (.tmp 12) (.const (.int .i64 (0))) (.int .i64 (0)) (.int .i64 (0)) (.bool false) (by kernel_rfl) ?_
 refine w_nil (xn_then (w_condF rfl (w_skip (xn_then (w_seq (w_seq (w_reg ?_)))))))
 refine wl_m (.tmp 1) (.int .i64 S) ?_
 refine wl_m (.tmp 2) (.int .i64 p) ?_
 refine wl_call 73 [(.tmp 16), (.tmp 17)] _ [.int .i64 S, .int .i64 p] (.int .i64 (0)) rfl rfl (fun _ _ => by kernel_rfl) (may_ok S p _ hS hp1 hp5) rfl ?_
 intro w4 hq
 replace Q1 := Q1.mo hq
 replace Q2 := Q2.mo hq
 replace M := M.trans hq
 clear hq
 refine wl_m (.tmp 18) (.int .i64 (0)) ?_
 refine w_nil (xn_then (w_seq (w_reg ?_)))
 refine wl_m (.tmp 9) (.int .i64 (0)) ?_
 refine wl_b .neq 32 (.tmp 19) (.const (.int .i64 (0))) (.int .i64 (0)) (.int .i64 (0)) (.bool false) (by kernel_rfl) ?_
 refine w_nil (xn_then (w_condF rfl (w_skip (xn_then (w_seq (w_reg ?_))))))
 refine wl_f 26 0 (.tmp 3) (pt k1 0) (pt k1 0) ?_
 refine wl_l 4 (.tmp 23) (pt k1 0) (.bool b) (run_one Q1 4 0 rfl Tryz.underlying4 rfl) ?_
 refine wl_f 26 1 (.tmp 3) (pt k1 0) (pt k1 1) ?_
 refine wl_l 24 (.tmp 25) (pt k1 1) (.agg #[.int .u64 (l0 (n)), .int .u64 (l1 (n)), .int .u64 (l2 (n)), .int .u64 (l3 (n))]) (run_row Q1 24 1 4 _ rfl Tryz.underlying24 rfl sz24) ?_
 refine wl_build 74 [(1, (.tmp 26))] [(1, .agg #[.int .u64 (l0 (n)), .int .u64 (l1 (n)), .int .u64 (l2 (n)), .int .u64 (l3 (n))])] (.agg #[.int .u64 0, .int .u64 0, .int .u64 0, .int .u64 0, .int .u64 (l0 (n)), .int .u64 (l1 (n)), .int .u64 (l2 (n)), .int .u64 (l3 (n))]) rfl rfl (by kernel_rfl) rfl ?_
 refine wl_f 26 2 (.tmp 3) (pt k1 0) (pt k1 5) ?_
 refine wl_l 3 (.tmp 28) (pt k1 5) (.int .i64 (s)) (run_one Q1 3 5 rfl Tryz.underlying3 rfl) ?_
 refine wl_m (.tmp 1) (.int .i64 S) ?_
 refine wl_m (.tmp 2) (.int .i64 p) ?_
 refine wl_call 74 [(.tmp 24), (.tmp 27), (.tmp 29), (.tmp 30), (.tmp 31)] _ [.bool b, .agg #[.int .u64 0, .int .u64 0, .int .u64 0, .int .u64 0, .int .u64 (l0 (n)), .int .u64 (l1 (n)), .int .u64 (l2 (n)), .int .u64 (l3 (n))], .int .i64 (s), .int .i64 S, .int .i64 p] (.tuple #[.agg #[d0, d1, d2, d3, d4, d5], .int .i64 e]) rfl rfl (fun _ _ => by kernel_rfl) (hrd _) rfl ?_
 intro w5 hq
 replace Q1 := Q1.mo hq
 replace Q2 := Q2.mo hq
 replace M := M.trans hq
 clear hq
 refine wl_un (fun v => Instr.extract v 0) (.tmp 32) (.tuple #[.agg #[d0, d1, d2, d3, d4, d5], .int .i64 e]) (.agg #[d0, d1, d2, d3, d4, d5]) (fun _ => rfl) rfl (by kernel_rfl) rfl ?_
 refine wl_un (fun v => Instr.extract v 1) (.tmp 32) (.tuple #[.agg #[d0, d1, d2, d3, d4, d5], .int .i64 e]) (.int .i64 e) (fun _ => rfl) rfl (by kernel_rfl) rfl ?_
 refine wl_st 26 (.tmp 6) (.tmp 33) k2 0 #[d0, d1, d2, d3, d4, d5] _ [d0, d1, d2, d3, d4, d5] Q2 rfl rfl rfl rfl rfl sz40 hd rfl rfl ?_
 intro w6 hS Qn
 replace Q2 := Qn
 clear Qn
 replace Q1 := hS.other _ _ ne_k1_k2 Q1
 replace M := hS.mo _ N_k2 M
 clear hS
 refine wl_m (.tmp 34) (.int .i64 e) ?_
 refine w_nil (xn_then (w_ret ?_))
 exact w_ret2 _ _ (.agg #[d0, d1, d2, d3, d4, d5]) (.int .i64 e) rfl ⟨k2, rfl, (run_row Q2 26 0 6 _ rfl Tryz.underlying26 rfl sz40)⟩ rfl ⟨rfl, M⟩
theorem rresc_ok (b : Bool) (n s S p : Int) (w : World) (hn0 : 0 ≤ n) (hn : n < MM) (h : ck b n s = 0) (hb : 0 ≤ s ∧ s ≤ 18) (hS : sc S = true) (hp1 : 1 ≤ p) (hp5 : p ≤ 5) :
  Calls Tryz.prog 52 #[dc b n s, .int .i64 S, .int .i64 p] w fun e' w' => e' = .returned (fx b (rdV b n s S p) S) ∧ Mo w w' := by
 have h2 : n < MM * MM := by unfold MM at *; omega
 obtain ⟨d0, d1, d2, d3, d4, d5, e, he, hd⟩ := fx_form b (rdV b n s S p) S
 have ha := fun w => round_n b n s S p w hn0 h2 hS (by omega) (by omega) hp1 hp5
 have el : dw n = .agg #[.int .u64 0, .int .u64 0, .int .u64 0, .int .u64 0, .int .u64 (l0 n), .int .u64 (l1 n), .int .u64 (l2 n), .int .u64 (l3 n)] := by
  unfold dw; rw [Int.ediv_eq_zero_of_lt hn0 hn]; rfl
 rw [he, el] at ha
 rw [he]
 exact rresc_w b n s S p d0 d1 d2 d3 d4 d5 e w hn0 hn h hS hp1 hp5 hd ha
theorem rescale_x (b : Bool) (n s S p : Int) (w : World) (hn0 : 0 ≤ n) (hn : n < MM) (h : ck b n s = 0) (hb : 0 ≤ s ∧ s ≤ 18) (hS : sc S = true) (hp1 : 1 ≤ p) (hp5 : p ≤ 5) :
  Calls Tryz.prog 51 #[dc b n s, .int .i64 S, .int .i64 p] w fun e' w' => e' = .returned (fx b (rdV b n s S p) S) ∧ Mo w w' := by
 have ha := fun w => mulTo_x b false n 1 s 0 S p w hn0 hn (by decide) (by decide) h (by decide) hb (by decide) hS hp1 hp5
 have e : (b != false) = b := by simp
 rw [e, Int.mul_one, Int.add_zero] at ha
 have h0 : 0 ≤ rdV b n s S p := by
  unfold rdV; split
  ·exact Int.mul_nonneg hn0 (Int.le_of_lt (pw_pos _))
  ·exact ro_nn hn0
 by_cases hr : rdV b n s S p < MM
 ·rw [fx_yes h0 hr] at ha ⊢
  exact rescale_ok b n s S p _ w ha
 ·rw [fx_no hr] at ha ⊢
  exact rescale_er b n s S p 7 w ha
end Go.Proofs.YtogomodbcjpfiaaGreatDoor

namespace Go.Proofs.YtogomodbcjpfiaaGreatDoor
open Go.RowKit
def askK (k : Int) (v : VL) : Int := if ask v = 0 then (if v.k = k then 0 else 2) else ask v
def rndR (b : Bool) (n s S p : Int) : DR := if sc S then (if 1 ≤ p ∧ p ≤ 5 then fxR b (rdV b n s S p) S else erR 22) else erR 21
def rndV (x : VL) (S p : Int) : VL := if askK 1 x = 0 then numV (rndR x.b x.n x.s S p) else vBad (askK 1 x)
def fitV (x : VL) (tk ts p : Int) : VL := if ckv x then (if x.k = 4 then x else if x.k = 0 then x else if x.k = tk then (if x.k = 1 then rndV x ts p else x) else vBad 2) else vBad 2
end Go.Proofs.YtogomodbcjpfiaaGreatDoor
namespace Go.Proofs.YtogomodbcjpfiaaGreatDoor
open Go.RowKit
theorem fault1_n (x : VL) (kk : Nat) (w : World) (hA : At w kk x.cells) (hx : x.ok) : Calls Tryz.prog 31 #[.slice (some ⟨kk, 0, none⟩) 1 1] w fun e9 w' => e9 = .returned (.int .i64 (ask x)) ∧ Mo w w' := by
 refine w_enter 26 Tryz.func31 Tryz.ntmps31 rfl rfl ?_
 have M : Mo w w := Mo.refl _
 refine w_seq (w_reg ?_)
 refine wl_m (.const (.int .i64 (0))) (.int .i64 (0)) ?_
 refine w_nil (xn_then (w_seq (w_seq (w_reg ?_))))
 refine wl_m (.tmp 0) (.slice (some ⟨kk, 0, none⟩) 1 1) ?_
 refine wl_val (.int .i64 (1)) (len45 _ _ _ 1 _ (by exact rfl) _ _ _ _ _ _) rfl ?_
 refine wl_m (.const (.int .i64 (0))) (.int .i64 (0)) ?_
 refine w_nil (xn_then (w_block ?_))
 refine w_rounds 3 ?_
 refine w_seq (w_reg ?_)
 refine wl_b .lss 3 (.tmp 7) (.tmp 6) (.int .i64 (0)) (.int .i64 (1)) (.bool true) (lt3 (r := true) rfl _ _ _) ?_
 refine w_nil (xn_then (w_seq (w_condT rfl (w_skip (xn_then (w_seq (w_block (w_seq (w_reg ?_)))))))))
 refine wl_bin (fun x y => Instr.indexAt 45 x y) (.tmp 5) (.tmp 7) (.slice (some ⟨kk, 0, none⟩) 1 1) (.int .i64 (0)) (pt kk 0) (fun _ => rfl) rfl rfl (ix45 (i := 0) rfl (by decide) _) rfl ?_
 refine wl_l 28 (.tmp 9) (pt kk 0) (.agg (x.cells).toArray) (run_row hA 28 0 10 (x.cells) rfl Tryz.underlying28 rfl sz28) ?_
 refine wl_alloc 28 #[.int .i64 0, .bool false, .int .u64 0, .int .u64 0, .int .u64 0, .int .u64 0, .int .i64 0, .bool false, .string ⟨#[]⟩, .int .i64 0] rfl (fun _ => by kernel_rfl) rfl ?_
 intro k1 u1 hk hz hq Q1
 have ne_kk_k1 : kk ≠ k1 := by have := hA.lt; omega
 have N_k1 : w.heap.size ≤ k1 := by have := M.size; omega
 replace hA := hA.mo hq
 replace M := M.trans hq
 clear hk hz hq
 refine wl_st 28 (.tmp 4) (.tmp 10) k1 0 ((x.cells).toArray) _ (x.cells) Q1 rfl rfl rfl rfl rfl sz28 rfl rfl rfl ?_
 intro u2 hS Qn
 replace Q1 := Qn
 clear Qn
 replace hA := hS.other _ _ ne_kk_k1 hA
 replace M := hS.mo _ N_k1 M
 clear hS
 refine w_nil (xn_then (w_block (w_seq (w_reg ?_))))
 refine wl_l 28 (.tmp 4) (pt k1 0) (.agg (x.cells).toArray) (run_row Q1 28 0 10 (x.cells) rfl Tryz.underlying28 rfl sz28) ?_
 cases hf0 : ckv x with
 | true =>
  refine wl_call 13 [(.tmp 12)] _ [.agg (x.cells).toArray] (.int .i64 (0)) rfl rfl (fun _ _ => by kernel_rfl) (check_t hf0 hx _) rfl ?_
  intro u3 hq
  replace hA := hA.mo hq
  replace Q1 := Q1.mo hq
  replace M := M.trans hq
  clear hq
  refine wl_b .neq 32 (.tmp 13) (.const (.int .i64 (0))) (.int .i64 (0)) (.int .i64 (0)) (.bool false) (ne34 (r := true) rfl _ _ _) ?_
  refine wl_m (.tmp 14) (.bool false) ?_
  refine w_nil (xn_then (w_condF rfl (w_seq (w_reg ?_))))
  refine wl_f 28 0 (.tmp 4) (pt k1 0) (pt k1 0) ?_
  refine wl_l 3 (.tmp 16) (pt k1 0) (.int .i64 (x.k)) (run_one Q1 3 0 rfl Tryz.underlying3 rfl) ?_
  cases hf1 : decide (x.k = 4) with
  | true =>
   have hf1p := of_decide_eq_true hf1
   refine wl_b .eql 3 (.tmp 17) (.const (.int .i64 (4))) (.int .i64 (x.k)) (.int .i64 (4)) (.bool true) (eq3 hf1 _ _ _) ?_
   refine wl_m (.tmp 18) (.bool true) ?_
   refine w_nil (xn_then (w_condT rfl (w_seq (w_reg ?_))))
   refine wl_f 28 4 (.tmp 4) (pt k1 0) (pt k1 9) ?_
   refine wl_l 3 (.tmp 19) (pt k1 9) (.int .i64 (x.e)) (run_one Q1 3 9 rfl Tryz.underlying3 rfl) ?_
   refine wl_m (.tmp 20) (.int .i64 (x.e)) ?_
   refine w_nil (xn_then (w_ret (xr_blk (xr_blk (xr_then (xr_then (xr_blk (xr_then ?_))))))))
   exact w_ret1 _ (.int .i64 (x.e)) rfl rfl ⟨by first | (simp [ask, ask, hf0, hf1p]; done) | (rw [ask2_e hx (by assumption) (by assumption)]), M⟩
  | false =>
   have hf1p := of_decide_eq_false hf1
   refine wl_b .eql 3 (.tmp 17) (.const (.int .i64 (4))) (.int .i64 (x.k)) (.int .i64 (4)) (.bool false) (eq3 hf1 _ _ _) ?_
   refine wl_m (.tmp 18) (.bool false) ?_
   refine w_nil (xn_then (w_condF rfl (w_seq (w_reg ?_))))
   refine wl_f 28 0 (.tmp 4) (pt k1 0) (pt k1 0) ?_
   refine wl_l 3 (.tmp 22) (pt k1 0) (.int .i64 (x.k)) (run_one Q1 3 0 rfl Tryz.underlying3 rfl) ?_
   cases hf2 : decide (x.k = 0) with
   | true =>
    have hf2p := of_decide_eq_true hf2
    refine wl_b .eql 3 (.tmp 23) (.const (.int .i64 (0))) (.int .i64 (x.k)) (.int .i64 (0)) (.bool true) (eq3 hf2 _ _ _) ?_
    refine wl_m (.tmp 24) (.bool true) ?_
    refine w_nil (xn_then (w_condT rfl (w_seq (w_reg ?_))))
    refine wl_m (.const (.int .i64 (3))) (.int .i64 (3)) ?_
    refine w_nil (xn_then (w_ret (xr_blk (xr_blk (xr_then (xr_then (xr_blk (xr_then ?_))))))))
    exact w_ret1 _ (.int .i64 (3)) rfl rfl ⟨by first | (simp [ask, ask, hf0, hf2p]; done) | (rw [ask2_e hx (by assumption) (by assumption)]), M⟩
   | false =>
    have hf2p := of_decide_eq_false hf2
    refine wl_b .eql 3 (.tmp 23) (.const (.int .i64 (0))) (.int .i64 (x.k)) (.int .i64 (0)) (.bool false) (eq3 hf2 _ _ _) ?_
    refine wl_m (.tmp 24) (.bool false) ?_
    refine w_nil (xn_then (w_condF rfl (w_skip (xn_blk (xn_blk (xn_then (w_reg ?_)))))))
    refine wl_b .add 3 (.tmp 7) (.const (.int .i64 (1))) (.int .i64 (0)) (.int .i64 (1)) (.int .i64 (1)) (by kernel_rfl) ?_
    refine wl_m (.tmp 25) (.int .i64 (1)) ?_
    refine w_nil ?_
    refine xn_rounds ?_
    refine w_seq (w_reg ?_)
    refine wl_b .lss 3 (.tmp 7) (.tmp 6) (.int .i64 (1)) (.int .i64 (1)) (.bool false) (lt3 (r := false) rfl _ _ _) ?_
    refine w_nil (xn_then (w_seq (w_condF rfl (w_exit (xx_then (xx_then (xx_blk (xn_then (w_seq (w_reg ?_))))))))))
    refine wl_m (.const (.int .i64 (0))) (.int .i64 (0)) ?_
    refine w_nil (xn_then (w_ret ?_))
    exact w_ret1 _ (.int .i64 (0)) rfl rfl ⟨by first | (simp [ask, ask, hf0, hf1p, hf2p]; done) | (rw [ask2_e hx (by assumption) (by assumption)]), M⟩
 | false =>
  refine wl_call 13 [(.tmp 12)] _ [.agg (x.cells).toArray] (.int .i64 (1)) rfl rfl (fun _ _ => by kernel_rfl) (check_f hf0 hx _) rfl ?_
  intro u3 hq
  replace hA := hA.mo hq
  replace Q1 := Q1.mo hq
  replace M := M.trans hq
  clear hq
  refine wl_b .neq 32 (.tmp 13) (.const (.int .i64 (0))) (.int .i64 (1)) (.int .i64 (0)) (.bool true) (ne34 (r := false) rfl _ _ _) ?_
  refine wl_m (.tmp 14) (.bool true) ?_
  refine w_nil (xn_then (w_condT rfl (w_seq (w_reg ?_))))
  refine wl_m (.const (.int .i64 (2))) (.int .i64 (2)) ?_
  refine w_nil (xn_then (w_ret (xr_blk (xr_blk (xr_then (xr_then (xr_blk (xr_then ?_))))))))
  exact w_ret1 _ (.int .i64 (2)) rfl rfl ⟨by first | (simp [ask, ask, hf0]; done) | (rw [ask2_e hx (by assumption) (by assumption)]), M⟩
theorem faultFor_n (k : Int) (x : VL) (w : World) (hx : x.ok) : Calls Tryz.prog 44 #[.int .i64 k, x.v] w fun e9 w' => e9 = .returned (.int .i64 (askK k x)) ∧ Mo w w' := by
 refine w_enter 16 Tryz.func44 Tryz.ntmps44 rfl rfl ?_
 have M : Mo w w := Mo.refl _
 refine w_seq (w_reg ?_)
 refine wl_box 28 (.tmp 1) _ (((x.cells).toArray)) rfl rfl (fun _ => by kernel_rfl) rfl ?_
 intro k1 u1 hk hz hq Q1
 have N_k1 : w.heap.size ≤ k1 := by have := M.size; omega
 replace M := M.trans hq
 clear hk hz hq
 refine wl_m (.const (.int .i64 (0))) (.int .i64 (0)) ?_
 refine w_nil (xn_then (w_seq (w_seq (w_reg ?_))))
 refine wl_l 28 (.tmp 3) (pt k1 0) (.agg (x.cells).toArray) (run_row Q1 28 0 10 (x.cells) rfl Tryz.underlying28 rfl sz28) ?_
 refine wl_bs 45 1 [(0, (.tmp 6))] [(0, .agg (x.cells).toArray)] ((x.cells).toArray) 28 rfl rfl (fun _ => by kernel_rfl) rfl ?_
 intro k2 u2 hk hz hq Q2
 have ne_k1_k2 : k1 ≠ k2 := by have := Q1.lt; omega
 have N_k2 : w.heap.size ≤ k2 := by have := M.size; omega
 replace Q1 := Q1.mo hq
 replace M := M.trans hq
 clear hk hz hq
 refine wl_call 31 [(.tmp 7)] _ [.slice (some ⟨k2, 0, none⟩) 1 1] (.int .i64 (ask x)) rfl rfl (fun _ _ => by kernel_rfl) (fault1_n x k2 _ Q2 hx) rfl ?_
 intro u3 hq
 replace Q1 := Q1.mo hq
 replace Q2 := Q2.mo hq
 replace M := M.trans hq
 clear hq
 refine wl_m (.tmp 8) (.int .i64 (ask x)) ?_
 refine w_nil (xn_then (w_seq (w_reg ?_)))
 refine wl_m (.tmp 5) (.int .i64 (ask x)) ?_
 cases hf0 : decide (ask x = 0) with
 | true =>
  have hf0p := of_decide_eq_true hf0
  refine wl_b .neq 3 (.tmp 9) (.const (.int .i64 (0))) (.int .i64 (ask x)) (.int .i64 (0)) (.bool false) (ne3 hf0 _ _ _) ?_
  refine w_nil (xn_then (w_condF rfl (w_skip (xn_then (w_seq (w_seq (w_reg ?_)))))))
  refine wl_f 28 0 (.tmp 3) (pt k1 0) (pt k1 0) ?_
  refine wl_l 3 (.tmp 12) (pt k1 0) (.int .i64 (x.k)) (run_one Q1 3 0 rfl Tryz.underlying3 rfl) ?_
  refine wl_m (.tmp 0) (.int .i64 (k)) ?_
  cases hf1 : decide (x.k = k) with
  | true =>
   have hf1p := of_decide_eq_true hf1
   refine wl_b .neq 3 (.tmp 13) (.tmp 14) (.int .i64 (x.k)) (.int .i64 (k)) (.bool false) (ne3 hf1 _ _ _) ?_
   refine w_nil (xn_then (w_condF rfl (w_skip (xn_then (w_seq (w_reg ?_))))))
   refine wl_m (.const (.int .i64 (0))) (.int .i64 (0)) ?_
   refine w_nil (xn_then (w_ret ?_))
   exact w_ret1 _ (.int .i64 (0)) rfl rfl ⟨by simp [askK, hf0p, hf1p], M⟩
  | false =>
   have hf1p := of_decide_eq_false hf1
   refine wl_b .neq 3 (.tmp 13) (.tmp 14) (.int .i64 (x.k)) (.int .i64 (k)) (.bool true) (ne3 hf1 _ _ _) ?_
   refine w_nil (xn_then (w_condT rfl (w_seq (w_reg ?_))))
   refine wl_m (.const (.int .i64 (2))) (.int .i64 (2)) ?_
   refine w_nil (xn_then (w_ret (xr_then ?_)))
   exact w_ret1 _ (.int .i64 (2)) rfl rfl ⟨by simp [askK, hf0p, hf1p], M⟩
 | false =>
  have hf0p := of_decide_eq_false hf0
  refine wl_b .neq 3 (.tmp 9) (.const (.int .i64 (0))) (.int .i64 (ask x)) (.int .i64 (0)) (.bool true) (ne3 hf0 _ _ _) ?_
  refine w_nil (xn_then (w_condT rfl (w_seq (w_reg ?_))))
  refine wl_m (.tmp 5) (.int .i64 (ask x)) ?_
  refine wl_m (.tmp 11) (.int .i64 (ask x)) ?_
  refine w_nil (xn_then (w_ret (xr_then ?_)))
  exact w_ret1 _ (.int .i64 (ask x)) rfl rfl ⟨by simp [askK, hf0p], M⟩
end Go.Proofs.YtogomodbcjpfiaaGreatDoor
namespace Go.Proofs.YtogomodbcjpfiaaGreatDoor
open Go.RowKit
theorem prnd_n (b : Bool) (n s S p : Int) (w : World) (hn0 : 0 ≤ n) (hn : n < MM) (h1 : ck b n s = 0) : Calls Tryz.prog 51 #[dc b n s, .int .i64 S, .int .i64 p] w fun e9 w' => e9 = .returned (rndR b n s S p).v ∧ Mo w w' := by
 unfold rndR
 cases hS : sc S with
 | false => exact rescale_e2 b n s S p w hn0 hn h1 hS
 | true =>
  by_cases hp : 1 ≤ p ∧ p ≤ 5
  ·rw [if_pos rfl, if_pos hp, ← fx_v]
   exact rescale_x b n s S p w hn0 hn h1 (sc_iff.1 (ck_s h1)) hS hp.1 hp.2
  ·rw [if_pos rfl, if_neg hp]
   exact rescale_e3 b n s S p w hn0 hn h1 hS (by omega)
theorem qrnd_n (b : Bool) (n s S p : Int) (w : World) (hn0 : 0 ≤ n) (hn : n < MM) (h1 : ck b n s = 0) : Calls Tryz.prog 52 #[dc b n s, .int .i64 S, .int .i64 p] w fun e9 w' => e9 = .returned (rndR b n s S p).v ∧ Mo w w' := by
 unfold rndR
 cases hS : sc S with
 | false => exact rresc_e2 b n s S p w hn0 hn h1 hS
 | true =>
  by_cases hp : 1 ≤ p ∧ p ≤ 5
  ·rw [if_pos rfl, if_pos hp, ← fx_v]
   exact rresc_ok b n s S p w hn0 hn h1 (sc_iff.1 (ck_s h1)) hS hp.1 hp.2
  ·rw [if_pos rfl, if_neg hp]
   exact rresc_e3 b n s S p w hn0 hn h1 hS (by omega)
theorem askK_0 {k : Int} {x : VL} (h : askK k x = 0) : ask x = 0 ∧ x.k = k := by
 unfold askK at h
 split at h
 next q =>
  refine ⟨q, ?_⟩
  split at h
  next g => exact g
  next => exact absurd h (by decide)
 next q => exact absurd h q
theorem num_of {x : VL} (hx : x.ok) (h : askK 1 x = 0) : ck x.b x.n x.s = 0 := (ckv_num hx (ask_0 hx (askK_0 h).1).1 (askK_0 h).2).2
theorem rnd_n (x : VL) (S p : Int) (w : World) (hx : x.ok) : Calls Tryz.prog 23 #[x.v, .int .i64 S, .int .i64 p] w fun e9 w' => e9 = .returned (rndV x S p).v ∧ Mo w w' := by
 refine w_enter 22 Tryz.func23 Tryz.ntmps23 rfl rfl ?_
 have M : Mo w w := Mo.refl _
 refine w_seq (w_reg ?_)
 refine wl_box 28 (.tmp 0) _ (((x.cells).toArray)) rfl rfl (fun _ => by kernel_rfl) rfl ?_
 intro k1 u1 hk hz hq Q1
 have N_k1 : w.heap.size ≤ k1 := by have := M.size; omega
 replace M := M.trans hq
 clear hk hz hq
 refine wl_alloc 28 #[.int .i64 0, .bool false, .int .u64 0, .int .u64 0, .int .u64 0, .int .u64 0, .int .i64 0, .bool false, .string ⟨#[]⟩, .int .i64 0] rfl (fun _ => by kernel_rfl) rfl ?_
 intro k2 u2 hk hz hq Q2
 have ne_k1_k2 : k1 ≠ k2 := by have := Q1.lt; omega
 have N_k2 : w.heap.size ≤ k2 := by have := M.size; omega
 replace Q1 := Q1.mo hq
 replace M := M.trans hq
 clear hk hz hq
 refine w_nil (xn_then (w_seq (w_seq (w_reg ?_))))
 refine wl_l 28 (.tmp 3) (pt k1 0) (.agg (x.cells).toArray) (run_row Q1 28 0 10 (x.cells) rfl Tryz.underlying28 rfl sz28) ?_
 refine wl_call 44 [(.const (.int .i64 (1))), (.tmp 8)] _ [.int .i64 (1), .agg (x.cells).toArray] (.int .i64 (askK (1) x)) rfl rfl (fun _ _ => by kernel_rfl) (faultFor_n (1) x _ hx) rfl ?_
 intro u3 hq
 replace Q1 := Q1.mo hq
 replace Q2 := Q2.mo hq
 replace M := M.trans hq
 clear hq
 refine wl_m (.tmp 9) (.int .i64 (askK (1) x)) ?_
 refine w_nil (xn_then (w_seq (w_reg ?_)))
 refine wl_m (.tmp 7) (.int .i64 (askK (1) x)) ?_
 cases hf0 : decide (askK (1) x = 0) with
 | true =>
  have hf0p := of_decide_eq_true hf0
  refine wl_b .neq 3 (.tmp 10) (.const (.int .i64 (0))) (.int .i64 (askK (1) x)) (.int .i64 (0)) (.bool false) (ne3 hf0 _ _ _) ?_
  refine w_nil (xn_then (w_condF rfl (w_skip (xn_then (w_seq (w_reg ?_))))))
  refine wl_f 28 1 (.tmp 3) (pt k1 0) (pt k1 1) ?_
  refine wl_l 26 (.tmp 14) (pt k1 1) (.agg #[.bool x.b, .int .u64 (l0 x.n), .int .u64 (l1 x.n), .int .u64 (l2 x.n), .int .u64 (l3 x.n), .int .i64 x.s]) (run_row Q1 26 1 6 _ rfl Tryz.underlying26 rfl sz26) ?_
  refine wl_m (.tmp 1) (.int .i64 (S)) ?_
  refine wl_m (.tmp 2) (.int .i64 (p)) ?_
  refine wl_call 51 [(.tmp 15), (.tmp 16), (.tmp 17)] _ [.agg #[.bool x.b, .int .u64 (l0 x.n), .int .u64 (l1 x.n), .int .u64 (l2 x.n), .int .u64 (l3 x.n), .int .i64 x.s], .int .i64 (S), .int .i64 (p)] (.tuple #[.agg #[.bool (rndR x.b x.n x.s S p).b, .int .u64 (l0 (rndR x.b x.n x.s S p).n), .int .u64 (l1 (rndR x.b x.n x.s S p).n), .int .u64 (l2 (rndR x.b x.n x.s S p).n), .int .u64 (l3 (rndR x.b x.n x.s S p).n), .int .i64 (rndR x.b x.n x.s S p).s], .int .i64 ((rndR x.b x.n x.s S p).e)]) rfl rfl (fun _ _ => by kernel_rfl) (prnd_n x.b x.n x.s S p _ hx.1 hx.2 (num_of hx (by assumption))) rfl ?_
  intro u4 hq
  replace Q1 := Q1.mo hq
  replace Q2 := Q2.mo hq
  replace M := M.trans hq
  clear hq
  refine wl_un (fun v => Instr.extract v 0) (.tmp 18) (.tuple #[.agg #[.bool (rndR x.b x.n x.s S p).b, .int .u64 (l0 (rndR x.b x.n x.s S p).n), .int .u64 (l1 (rndR x.b x.n x.s S p).n), .int .u64 (l2 (rndR x.b x.n x.s S p).n), .int .u64 (l3 (rndR x.b x.n x.s S p).n), .int .i64 (rndR x.b x.n x.s S p).s], .int .i64 ((rndR x.b x.n x.s S p).e)]) (.agg #[.bool (rndR x.b x.n x.s S p).b, .int .u64 (l0 (rndR x.b x.n x.s S p).n), .int .u64 (l1 (rndR x.b x.n x.s S p).n), .int .u64 (l2 (rndR x.b x.n x.s S p).n), .int .u64 (l3 (rndR x.b x.n x.s S p).n), .int .i64 (rndR x.b x.n x.s S p).s]) (fun _ => rfl) rfl (by kernel_rfl) rfl ?_
  refine wl_un (fun v => Instr.extract v 1) (.tmp 18) (.tuple #[.agg #[.bool (rndR x.b x.n x.s S p).b, .int .u64 (l0 (rndR x.b x.n x.s S p).n), .int .u64 (l1 (rndR x.b x.n x.s S p).n), .int .u64 (l2 (rndR x.b x.n x.s S p).n), .int .u64 (l3 (rndR x.b x.n x.s S p).n), .int .i64 (rndR x.b x.n x.s S p).s], .int .i64 ((rndR x.b x.n x.s S p).e)]) (.int .i64 ((rndR x.b x.n x.s S p).e)) (fun _ => rfl) rfl (by kernel_rfl) rfl ?_
  refine wl_call 45 [(.tmp 19), (.tmp 20)] _ [.agg #[.bool (rndR x.b x.n x.s S p).b, .int .u64 (l0 (rndR x.b x.n x.s S p).n), .int .u64 (l1 (rndR x.b x.n x.s S p).n), .int .u64 (l2 (rndR x.b x.n x.s S p).n), .int .u64 (l3 (rndR x.b x.n x.s S p).n), .int .i64 (rndR x.b x.n x.s S p).s], .int .i64 ((rndR x.b x.n x.s S p).e)] (.agg ((numV (rndR x.b x.n x.s S p)).cells).toArray) rfl rfl (fun _ _ => by kernel_rfl) (number_n (rndR x.b x.n x.s S p) _) rfl ?_
  intro u5 hq
  replace Q1 := Q1.mo hq
  replace Q2 := Q2.mo hq
  replace M := M.trans hq
  clear hq
  refine wl_st 28 (.tmp 6) (.tmp 21) k2 0 (((numV (rndR x.b x.n x.s S p)).cells).toArray) _ ((numV (rndR x.b x.n x.s S p)).cells) Q2 rfl rfl rfl rfl rfl sz28 rfl rfl rfl ?_
  intro u6 hS Qn
  replace Q2 := Qn
  clear Qn
  replace Q1 := hS.other _ _ ne_k1_k2 Q1
  replace M := hS.mo _ N_k2 M
  clear hS
  refine w_nil (xn_then (w_ret ?_))
  exact w_ret1 _ (.agg ((numV (rndR x.b x.n x.s S p)).cells).toArray) rfl ⟨k2, rfl, (run_row Q2 28 0 10 ((numV (rndR x.b x.n x.s S p)).cells) rfl Tryz.underlying28 rfl sz28)⟩ ⟨vrt (x := (numV (rndR x.b x.n x.s S p))) rfl (by simp [rndV, hf0p]), M⟩
 | false =>
  have hf0p := of_decide_eq_false hf0
  refine wl_b .neq 3 (.tmp 10) (.const (.int .i64 (0))) (.int .i64 (askK (1) x)) (.int .i64 (0)) (.bool true) (ne3 hf0 _ _ _) ?_
  refine w_nil (xn_then (w_condT rfl (w_seq (w_reg ?_))))
  refine wl_m (.tmp 7) (.int .i64 (askK (1) x)) ?_
  refine wl_call 15 [(.tmp 12)] _ [.int .i64 (askK (1) x)] (.agg ((vBad (askK (1) x)).cells).toArray) rfl rfl (fun _ _ => by kernel_rfl) (bad_n (askK (1) x) _) rfl ?_
  intro u4 hq
  replace Q1 := Q1.mo hq
  replace Q2 := Q2.mo hq
  replace M := M.trans hq
  clear hq
  refine wl_st 28 (.tmp 6) (.tmp 13) k2 0 (((vBad (askK (1) x)).cells).toArray) _ ((vBad (askK (1) x)).cells) Q2 rfl rfl rfl rfl rfl sz28 rfl rfl rfl ?_
  intro u5 hS Qn
  replace Q2 := Qn
  clear Qn
  replace Q1 := hS.other _ _ ne_k1_k2 Q1
  replace M := hS.mo _ N_k2 M
  clear hS
  refine w_nil (xn_then (w_ret (xr_then ?_)))
  exact w_ret1 _ (.agg ((vBad (askK (1) x)).cells).toArray) rfl ⟨k2, rfl, (run_row Q2 28 0 10 ((vBad (askK (1) x)).cells) rfl Tryz.underlying28 rfl sz28)⟩ ⟨vrt (x := (vBad (askK (1) x))) rfl (by simp [rndV, hf0p]), M⟩
theorem fit_n (x : VL) (tk ts p : Int) (w : World) (hx : x.ok) : Calls Tryz.prog 29 #[x.v, .agg #[.int .i64 tk, .int .i64 ts], .int .i64 p] w fun e9 w' => e9 = .returned (fitV x tk ts p).v ∧ Mo w w' := by
 refine w_enter 37 Tryz.func29 Tryz.ntmps29 rfl rfl ?_
 have M : Mo w w := Mo.refl _
 refine w_seq (w_reg ?_)
 refine wl_box 28 (.tmp 0) _ (((x.cells).toArray)) rfl rfl (fun _ => by kernel_rfl) rfl ?_
 intro k1 u1 hk hz hq Q1
 have N_k1 : w.heap.size ≤ k1 := by have := M.size; omega
 replace M := M.trans hq
 clear hk hz hq
 refine wl_box 42 (.tmp 1) _ (#[.int .i64 tk, .int .i64 ts]) rfl rfl (fun _ => by kernel_rfl) rfl ?_
 intro k2 u2 hk hz hq Q2
 have ne_k1_k2 : k1 ≠ k2 := by have := Q1.lt; omega
 have N_k2 : w.heap.size ≤ k2 := by have := M.size; omega
 replace Q1 := Q1.mo hq
 replace M := M.trans hq
 clear hk hz hq
 refine wl_alloc 28 #[.int .i64 0, .bool false, .int .u64 0, .int .u64 0, .int .u64 0, .int .u64 0, .int .i64 0, .bool false, .string ⟨#[]⟩, .int .i64 0] rfl (fun _ => by kernel_rfl) rfl ?_
 intro k3 u3 hk hz hq Q3
 have ne_k1_k3 : k1 ≠ k3 := by have := Q1.lt; omega
 have ne_k2_k3 : k2 ≠ k3 := by have := Q2.lt; omega
 have N_k3 : w.heap.size ≤ k3 := by have := M.size; omega
 replace Q1 := Q1.mo hq
 replace Q2 := Q2.mo hq
 replace M := M.trans hq
 clear hk hz hq
 refine w_nil (xn_then (w_seq (w_block (w_seq (w_reg ?_)))))
 refine wl_l 28 (.tmp 3) (pt k1 0) (.agg (x.cells).toArray) (run_row Q1 28 0 10 (x.cells) rfl Tryz.underlying28 rfl sz28) ?_
 cases hf0 : ckv x with
 | true =>
  refine wl_call 13 [(.tmp 8)] _ [.agg (x.cells).toArray] (.int .i64 (0)) rfl rfl (fun _ _ => by kernel_rfl) (check_t hf0 hx _) rfl ?_
  intro u4 hq
  replace Q1 := Q1.mo hq
  replace Q2 := Q2.mo hq
  replace Q3 := Q3.mo hq
  replace M := M.trans hq
  clear hq
  refine wl_b .neq 32 (.tmp 9) (.const (.int .i64 (0))) (.int .i64 (0)) (.int .i64 (0)) (.bool false) (ne34 (r := true) rfl _ _ _) ?_
  refine wl_m (.tmp 10) (.bool false) ?_
  refine w_nil (xn_then (w_condF rfl (w_seq (w_seq (w_reg ?_)))))
  refine wl_f 28 0 (.tmp 3) (pt k1 0) (pt k1 0) ?_
  refine wl_l 3 (.tmp 13) (pt k1 0) (.int .i64 (x.k)) (run_one Q1 3 0 rfl Tryz.underlying3 rfl) ?_
  cases hf1 : decide (x.k = 4) with
  | true =>
   have hf1p := of_decide_eq_true hf1
   refine wl_b .eql 3 (.tmp 14) (.const (.int .i64 (4))) (.int .i64 (x.k)) (.int .i64 (4)) (.bool true) (eq3 hf1 _ _ _) ?_
   refine wl_m (.tmp 15) (.bool true) ?_
   refine w_nil (xn_then (w_condT rfl (w_skip (xn_then (w_condT rfl (w_seq (w_reg ?_)))))))
   refine wl_l 28 (.tmp 3) (pt k1 0) (.agg (x.cells).toArray) (run_row Q1 28 0 10 (x.cells) rfl Tryz.underlying28 rfl sz28) ?_
   refine wl_st 28 (.tmp 6) (.tmp 19) k3 0 ((x.cells).toArray) _ (x.cells) Q3 rfl rfl rfl rfl rfl sz28 rfl rfl rfl ?_
   intro u5 hS Qn
   replace Q3 := Qn
   clear Qn
   replace Q1 := hS.other _ _ ne_k1_k3 Q1
   replace Q2 := hS.other _ _ ne_k2_k3 Q2
   replace M := hS.mo _ N_k3 M
   clear hS
   refine w_nil (xn_then (w_ret (xr_blk (xr_then ?_))))
   exact w_ret1 _ (.agg (x.cells).toArray) rfl ⟨k3, rfl, (run_row Q3 28 0 10 (x.cells) rfl Tryz.underlying28 rfl sz28)⟩ ⟨vrt (x := x) rfl (by simp [fitV, hf0, if_pos hf1p]), M⟩
  | false =>
   have hf1p := of_decide_eq_false hf1
   refine wl_b .eql 3 (.tmp 14) (.const (.int .i64 (4))) (.int .i64 (x.k)) (.int .i64 (4)) (.bool false) (eq3 hf1 _ _ _) ?_
   refine wl_m (.tmp 15) (.bool false) ?_
   refine w_nil (xn_then (w_condF rfl (w_reg ?_)))
   refine wl_f 28 0 (.tmp 3) (pt k1 0) (pt k1 0) ?_
   refine wl_l 3 (.tmp 16) (pt k1 0) (.int .i64 (x.k)) (run_one Q1 3 0 rfl Tryz.underlying3 rfl) ?_
   cases hf2 : decide (x.k = 0) with
   | true =>
    have hf2p := of_decide_eq_true hf2
    refine wl_b .eql 3 (.tmp 17) (.const (.int .i64 (0))) (.int .i64 (x.k)) (.int .i64 (0)) (.bool true) (eq3 hf2 _ _ _) ?_
    refine wl_m (.tmp 18) (.bool true) ?_
    refine w_nil (xn_then (w_condT rfl (w_seq (w_reg ?_))))
    refine wl_l 28 (.tmp 3) (pt k1 0) (.agg (x.cells).toArray) (run_row Q1 28 0 10 (x.cells) rfl Tryz.underlying28 rfl sz28) ?_
    refine wl_st 28 (.tmp 6) (.tmp 19) k3 0 ((x.cells).toArray) _ (x.cells) Q3 rfl rfl rfl rfl rfl sz28 rfl rfl rfl ?_
    intro u5 hS Qn
    replace Q3 := Qn
    clear Qn
    replace Q1 := hS.other _ _ ne_k1_k3 Q1
    replace Q2 := hS.other _ _ ne_k2_k3 Q2
    replace M := hS.mo _ N_k3 M
    clear hS
    refine w_nil (xn_then (w_ret (xr_blk (xr_then ?_))))
    exact w_ret1 _ (.agg (x.cells).toArray) rfl ⟨k3, rfl, (run_row Q3 28 0 10 (x.cells) rfl Tryz.underlying28 rfl sz28)⟩ ⟨vrt (x := x) rfl (by simp [fitV, hf0, if_pos hf2p]), M⟩
   | false =>
    have hf2p := of_decide_eq_false hf2
    refine wl_b .eql 3 (.tmp 17) (.const (.int .i64 (0))) (.int .i64 (x.k)) (.int .i64 (0)) (.bool false) (eq3 hf2 _ _ _) ?_
    refine wl_m (.tmp 18) (.bool false) ?_
    refine w_nil (xn_then (w_condF rfl (w_seq (w_reg ?_))))
    refine wl_f 28 0 (.tmp 3) (pt k1 0) (pt k1 0) ?_
    refine wl_l 3 (.tmp 21) (pt k1 0) (.int .i64 (x.k)) (run_one Q1 3 0 rfl Tryz.underlying3 rfl) ?_
    refine wl_f 42 0 (.tmp 4) (pt k2 0) (pt k2 0) ?_
    refine wl_l 3 (.tmp 23) (pt k2 0) (.int .i64 (tk)) (run_one Q2 3 0 rfl Tryz.underlying3 rfl) ?_
    cases hf3 : decide (x.k = tk) with
    | true =>
     have hf3p := of_decide_eq_true hf3
     refine wl_b .neq 3 (.tmp 22) (.tmp 24) (.int .i64 (x.k)) (.int .i64 (tk)) (.bool false) (ne3 hf3 _ _ _) ?_
     refine wl_m (.tmp 25) (.bool false) ?_
     refine w_nil (xn_then (w_condF rfl (w_seq (w_reg ?_))))
     refine wl_f 28 0 (.tmp 3) (pt k1 0) (pt k1 0) ?_
     refine wl_l 3 (.tmp 28) (pt k1 0) (.int .i64 (x.k)) (run_one Q1 3 0 rfl Tryz.underlying3 rfl) ?_
     cases hf4 : decide (x.k = 1) with
     | true =>
      have hf4p := of_decide_eq_true hf4
      refine wl_b .eql 3 (.tmp 29) (.const (.int .i64 (1))) (.int .i64 (x.k)) (.int .i64 (1)) (.bool true) (eq3 hf4 _ _ _) ?_
      refine wl_m (.tmp 30) (.bool true) ?_
      refine w_nil (xn_then (w_condT rfl (w_seq (w_reg ?_))))
      refine wl_l 28 (.tmp 3) (pt k1 0) (.agg (x.cells).toArray) (run_row Q1 28 0 10 (x.cells) rfl Tryz.underlying28 rfl sz28) ?_
      refine wl_f 42 1 (.tmp 4) (pt k2 0) (pt k2 1) ?_
      refine wl_l 3 (.tmp 32) (pt k2 1) (.int .i64 (ts)) (run_one Q2 3 1 rfl Tryz.underlying3 rfl) ?_
      refine wl_m (.tmp 2) (.int .i64 (p)) ?_
      refine wl_call 23 [(.tmp 31), (.tmp 33), (.tmp 34)] _ [.agg (x.cells).toArray, .int .i64 (ts), .int .i64 (p)] (.agg ((rndV x ts p).cells).toArray) rfl rfl (fun _ _ => by kernel_rfl) (rnd_n x ts p _ hx) rfl ?_
      intro u5 hq
      replace Q1 := Q1.mo hq
      replace Q2 := Q2.mo hq
      replace Q3 := Q3.mo hq
      replace M := M.trans hq
      clear hq
      refine wl_st 28 (.tmp 6) (.tmp 35) k3 0 (((rndV x ts p).cells).toArray) _ ((rndV x ts p).cells) Q3 rfl rfl rfl rfl rfl sz28 rfl rfl rfl ?_
      intro u6 hS Qn
      replace Q3 := Qn
      clear Qn
      replace Q1 := hS.other _ _ ne_k1_k3 Q1
      replace Q2 := hS.other _ _ ne_k2_k3 Q2
      replace M := hS.mo _ N_k3 M
      clear hS
      refine w_nil (xn_then (w_ret (xr_blk (xr_then ?_))))
      exact w_ret1 _ (.agg ((rndV x ts p).cells).toArray) rfl ⟨k3, rfl, (run_row Q3 28 0 10 ((rndV x ts p).cells) rfl Tryz.underlying28 rfl sz28)⟩ ⟨vrt (x := (rndV x ts p)) rfl (by simp [fitV, hf0, if_neg hf1p, if_neg hf2p, if_pos hf3p, if_pos hf4p]), M⟩
     | false =>
      have hf4p := of_decide_eq_false hf4
      refine wl_b .eql 3 (.tmp 29) (.const (.int .i64 (1))) (.int .i64 (x.k)) (.int .i64 (1)) (.bool false) (eq3 hf4 _ _ _) ?_
      refine wl_m (.tmp 30) (.bool false) ?_
      refine w_nil (xn_then (w_condF rfl (w_skip (xn_blk (xn_then (w_seq (w_reg ?_)))))))
      refine wl_l 28 (.tmp 3) (pt k1 0) (.agg (x.cells).toArray) (run_row Q1 28 0 10 (x.cells) rfl Tryz.underlying28 rfl sz28) ?_
      refine wl_st 28 (.tmp 6) (.tmp 36) k3 0 ((x.cells).toArray) _ (x.cells) Q3 rfl rfl rfl rfl rfl sz28 rfl rfl rfl ?_
      intro u5 hS Qn
      replace Q3 := Qn
      clear Qn
      replace Q1 := hS.other _ _ ne_k1_k3 Q1
      replace Q2 := hS.other _ _ ne_k2_k3 Q2
      replace M := hS.mo _ N_k3 M
      clear hS
      refine w_nil (xn_then (w_ret ?_))
      exact w_ret1 _ (.agg (x.cells).toArray) rfl ⟨k3, rfl, (run_row Q3 28 0 10 (x.cells) rfl Tryz.underlying28 rfl sz28)⟩ ⟨vrt (x := x) rfl (by simp [fitV, hf0, if_pos hf3p, if_neg hf4p]), M⟩
    | false =>
     have hf3p := of_decide_eq_false hf3
     refine wl_b .neq 3 (.tmp 22) (.tmp 24) (.int .i64 (x.k)) (.int .i64 (tk)) (.bool true) (ne3 hf3 _ _ _) ?_
     refine wl_m (.tmp 25) (.bool true) ?_
     refine w_nil (xn_then (w_condT rfl (w_seq (w_reg ?_))))
     refine wl_call 15 [(.const (.int .i64 (2)))] _ [.int .i64 (2)] (.agg ((vBad (2)).cells).toArray) rfl rfl (fun _ _ => by kernel_rfl) (bad_n (2) _) rfl ?_
     intro u5 hq
     replace Q1 := Q1.mo hq
     replace Q2 := Q2.mo hq
     replace Q3 := Q3.mo hq
     replace M := M.trans hq
     clear hq
     refine wl_st 28 (.tmp 6) (.tmp 26) k3 0 (((vBad (2)).cells).toArray) _ ((vBad (2)).cells) Q3 rfl rfl rfl rfl rfl sz28 rfl rfl rfl ?_
     intro u6 hS Qn
     replace Q3 := Qn
     clear Qn
     replace Q1 := hS.other _ _ ne_k1_k3 Q1
     replace Q2 := hS.other _ _ ne_k2_k3 Q2
     replace M := hS.mo _ N_k3 M
     clear hS
     refine w_nil (xn_then (w_ret (xr_blk (xr_then ?_))))
     exact w_ret1 _ (.agg ((vBad (2)).cells).toArray) rfl ⟨k3, rfl, (run_row Q3 28 0 10 ((vBad (2)).cells) rfl Tryz.underlying28 rfl sz28)⟩ ⟨vrt (x := (vBad (2))) rfl (by simp [fitV, hf0, if_neg hf1p, if_neg hf2p, if_neg hf3p]), M⟩
 | false =>
  refine wl_call 13 [(.tmp 8)] _ [.agg (x.cells).toArray] (.int .i64 (1)) rfl rfl (fun _ _ => by kernel_rfl) (check_f hf0 hx _) rfl ?_
  intro u4 hq
  replace Q1 := Q1.mo hq
  replace Q2 := Q2.mo hq
  replace Q3 := Q3.mo hq
  replace M := M.trans hq
  clear hq
  refine wl_b .neq 32 (.tmp 9) (.const (.int .i64 (0))) (.int .i64 (1)) (.int .i64 (0)) (.bool true) (ne34 (r := false) rfl _ _ _) ?_
  refine wl_m (.tmp 10) (.bool true) ?_
  refine w_nil (xn_then (w_condT rfl (w_seq (w_reg ?_))))
  refine wl_call 15 [(.const (.int .i64 (2)))] _ [.int .i64 (2)] (.agg ((vBad (2)).cells).toArray) rfl rfl (fun _ _ => by kernel_rfl) (bad_n (2) _) rfl ?_
  intro u5 hq
  replace Q1 := Q1.mo hq
  replace Q2 := Q2.mo hq
  replace Q3 := Q3.mo hq
  replace M := M.trans hq
  clear hq
  refine wl_st 28 (.tmp 6) (.tmp 11) k3 0 (((vBad (2)).cells).toArray) _ ((vBad (2)).cells) Q3 rfl rfl rfl rfl rfl sz28 rfl rfl rfl ?_
  intro u6 hS Qn
  replace Q3 := Qn
  clear Qn
  replace Q1 := hS.other _ _ ne_k1_k3 Q1
  replace Q2 := hS.other _ _ ne_k2_k3 Q2
  replace M := hS.mo _ N_k3 M
  clear hS
  refine w_nil (xn_then (w_ret (xr_blk (xr_then ?_))))
  exact w_ret1 _ (.agg ((vBad (2)).cells).toArray) rfl ⟨k3, rfl, (run_row Q3 28 0 10 ((vBad (2)).cells) rfl Tryz.underlying28 rfl sz28)⟩ ⟨vrt (x := (vBad (2))) rfl (by simp [fitV, hf0]), M⟩
end Go.Proofs.YtogomodbcjpfiaaGreatDoor
namespace Go.Proofs.YtogomodbcjpfiaaGreatDoor
open Go.RowKit
def oneV (k : Int) (x : VL) : VL := if askK k x = 0 then x else vEr (askK k x)
theorem oneK_n (k : Int) (x : VL) (w : World) (hx : x.ok) : Calls Tryz.prog 47 #[x.v, .int .i64 k] w fun e9 w' => e9 = .returned (oneV k x).v ∧ Mo w w' := by
 refine w_enter 18 Tryz.func47 Tryz.ntmps47 rfl rfl ?_
 have M : Mo w w := Mo.refl _
 refine w_seq (w_reg ?_)
 refine wl_box 28 (.tmp 0) _ (((x.cells).toArray)) rfl rfl (fun _ => by kernel_rfl) rfl ?_
 intro k1 u1 hk hz hq Q1
 have N_k1 : w.heap.size ≤ k1 := by have := M.size; omega
 replace M := M.trans hq
 clear hk hz hq
 refine wl_alloc 28 #[.int .i64 0, .bool false, .int .u64 0, .int .u64 0, .int .u64 0, .int .u64 0, .int .i64 0, .bool false, .string ⟨#[]⟩, .int .i64 0] rfl (fun _ => by kernel_rfl) rfl ?_
 intro k2 u2 hk hz hq Q2
 have ne_k1_k2 : k1 ≠ k2 := by have := Q1.lt; omega
 have N_k2 : w.heap.size ≤ k2 := by have := M.size; omega
 replace Q1 := Q1.mo hq
 replace M := M.trans hq
 clear hk hz hq
 refine w_nil (xn_then (w_seq (w_reg ?_)))
 refine wl_l 28 (.tmp 2) (pt k1 0) (.agg (x.cells).toArray) (run_row Q1 28 0 10 (x.cells) rfl Tryz.underlying28 rfl sz28) ?_
 cases hf0 : decide (ask x = 0) with
 | true =>
  have hf0p := of_decide_eq_true hf0
  refine wl_call 35 [(.tmp 5)] _ [.agg (x.cells).toArray] (.agg (x.cells).toArray) rfl rfl (fun _ _ => by kernel_rfl) (asked_0 hf0p hx _) rfl ?_
  intro u3 hq
  replace Q1 := Q1.mo hq
  replace Q2 := Q2.mo hq
  replace M := M.trans hq
  clear hq
  refine wl_st 28 (.tmp 2) (.tmp 6) k1 0 ((x.cells).toArray) (x.cells) (x.cells) Q1 rfl rfl rfl rfl rfl sz28 rfl rfl rfl ?_
  intro u4 hS Qn
  replace Q1 := Qn
  clear Qn
  replace Q2 := hS.other _ _ ne_k1_k2.symm Q2
  replace M := hS.mo _ N_k1 M
  clear hS
  refine w_nil (xn_then (w_seq (w_seq (w_reg ?_))))
  refine wl_f 28 0 (.tmp 2) (pt k1 0) (pt k1 0) ?_
  refine wl_l 3 (.tmp 7) (pt k1 0) (.int .i64 (x.k)) (run_one Q1 3 0 rfl Tryz.underlying3 rfl) ?_
  refine wl_b .neq 3 (.tmp 8) (.const (.int .i64 (4))) (.int .i64 (x.k)) (.int .i64 (4)) (.bool true) (ne3 (decide_eq_false (ask_0 hx hf0p).2.1) _ _ _) ?_
  refine wl_m (.tmp 9) (.bool true) ?_
  refine wl_f 28 0 (.tmp 2) (pt k1 0) (pt k1 0) ?_
  refine wl_l 3 (.tmp 11) (pt k1 0) (.int .i64 (x.k)) (run_one Q1 3 0 rfl Tryz.underlying3 rfl) ?_
  refine wl_m (.tmp 1) (.int .i64 (k)) ?_
  cases hf1 : decide (x.k = k) with
  | true =>
   have hf1p := of_decide_eq_true hf1
   refine wl_b .neq 3 (.tmp 12) (.tmp 13) (.int .i64 (x.k)) (.int .i64 (k)) (.bool false) (ne3 hf1 _ _ _) ?_
   refine wl_pick (.tmp 10) (.tmp 14) (.const (.bool false)) true (.bool false) (fun _ => rfl) rfl rfl rfl ?_
   refine w_nil (xn_then (w_condF rfl (w_skip (xn_then (w_seq (w_reg ?_))))))
   refine wl_l 28 (.tmp 2) (pt k1 0) (.agg (x.cells).toArray) (run_row Q1 28 0 10 (x.cells) rfl Tryz.underlying28 rfl sz28) ?_
   refine wl_st 28 (.tmp 4) (.tmp 17) k2 0 ((x.cells).toArray) _ (x.cells) Q2 rfl rfl rfl rfl rfl sz28 rfl rfl rfl ?_
   intro u5 hS Qn
   replace Q2 := Qn
   clear Qn
   replace Q1 := hS.other _ _ ne_k1_k2 Q1
   replace M := hS.mo _ N_k2 M
   clear hS
   refine w_nil (xn_then (w_ret ?_))
   exact w_ret1 _ (.agg (x.cells).toArray) rfl ⟨k2, rfl, (run_row Q2 28 0 10 (x.cells) rfl Tryz.underlying28 rfl sz28)⟩ ⟨vrt (x := x) rfl (by simp [oneV, askK, hf0p, hf1p]), M⟩
  | false =>
   have hf1p := of_decide_eq_false hf1
   refine wl_b .neq 3 (.tmp 12) (.tmp 13) (.int .i64 (x.k)) (.int .i64 (k)) (.bool true) (ne3 hf1 _ _ _) ?_
   refine wl_pick (.tmp 10) (.tmp 14) (.const (.bool false)) true (.bool true) (fun _ => rfl) rfl rfl rfl ?_
   refine w_nil (xn_then (w_condT rfl (w_seq (w_reg ?_))))
   refine wl_call 16 [(.const (.int .i64 (2)))] _ [.int .i64 (2)] (.agg ((vBad (2)).cells).toArray) rfl rfl (fun _ _ => by kernel_rfl) (rbad_n (2) _) rfl ?_
   intro u5 hq
   replace Q1 := Q1.mo hq
   replace Q2 := Q2.mo hq
   replace M := M.trans hq
   clear hq
   refine wl_st 28 (.tmp 4) (.tmp 16) k2 0 (((vBad (2)).cells).toArray) _ ((vBad (2)).cells) Q2 rfl rfl rfl rfl rfl sz28 rfl rfl rfl ?_
   intro u6 hS Qn
   replace Q2 := Qn
   clear Qn
   replace Q1 := hS.other _ _ ne_k1_k2 Q1
   replace M := hS.mo _ N_k2 M
   clear hS
   refine w_nil (xn_then (w_ret (xr_then ?_)))
   exact w_ret1 _ (.agg ((vBad (2)).cells).toArray) rfl ⟨k2, rfl, (run_row Q2 28 0 10 ((vBad (2)).cells) rfl Tryz.underlying28 rfl sz28)⟩ ⟨vrt (x := (vBad (2))) rfl (by simp [oneV, askK, vBad, isE, hf0p, hf1p]), M⟩
 | false =>
  have hf0p := of_decide_eq_false hf0
  refine wl_call 35 [(.tmp 5)] _ [.agg (x.cells).toArray] (.agg ((vEr (ask x)).cells).toArray) rfl rfl (fun _ _ => by kernel_rfl) (asked_1 hf0p hx _) rfl ?_
  intro u3 hq
  replace Q1 := Q1.mo hq
  replace Q2 := Q2.mo hq
  replace M := M.trans hq
  clear hq
  refine wl_st 28 (.tmp 2) (.tmp 6) k1 0 (((vEr (ask x)).cells).toArray) (x.cells) ((vEr (ask x)).cells) Q1 rfl rfl rfl rfl rfl sz28 rfl rfl rfl ?_
  intro u4 hS Qn
  replace Q1 := Qn
  clear Qn
  replace Q2 := hS.other _ _ ne_k1_k2.symm Q2
  replace M := hS.mo _ N_k1 M
  clear hS
  refine w_nil (xn_then (w_seq (w_seq (w_reg ?_))))
  refine wl_f 28 0 (.tmp 2) (pt k1 0) (pt k1 0) ?_
  refine wl_l 3 (.tmp 7) (pt k1 0) (.int .i64 ((vEr (ask x)).k)) (run_one Q1 3 0 rfl Tryz.underlying3 rfl) ?_
  refine wl_b .neq 3 (.tmp 8) (.const (.int .i64 (4))) (.int .i64 ((vEr (ask x)).k)) (.int .i64 (4)) (.bool false) (ne3 rfl _ _ _) ?_
  refine wl_m (.tmp 9) (.bool false) ?_
  refine wl_skip rfl (wl_skip rfl (wl_skip rfl (wl_skip rfl ?_)))
  refine wl_pick (.tmp 10) (.tmp 14) (.const (.bool false)) false (.bool false) (fun _ => rfl) rfl rfl rfl ?_
  refine w_nil (xn_then (w_condF rfl (w_skip (xn_then (w_seq (w_reg ?_))))))
  refine wl_l 28 (.tmp 2) (pt k1 0) (.agg ((vEr (ask x)).cells).toArray) (run_row Q1 28 0 10 ((vEr (ask x)).cells) rfl Tryz.underlying28 rfl sz28) ?_
  refine wl_st 28 (.tmp 4) (.tmp 17) k2 0 (((vEr (ask x)).cells).toArray) _ ((vEr (ask x)).cells) Q2 rfl rfl rfl rfl rfl sz28 rfl rfl rfl ?_
  intro u5 hS Qn
  replace Q2 := Qn
  clear Qn
  replace Q1 := hS.other _ _ ne_k1_k2 Q1
  replace M := hS.mo _ N_k2 M
  clear hS
  refine w_nil (xn_then (w_ret ?_))
  exact w_ret1 _ (.agg ((vEr (ask x)).cells).toArray) rfl ⟨k2, rfl, (run_row Q2 28 0 10 ((vEr (ask x)).cells) rfl Tryz.underlying28 rfl sz28)⟩ ⟨vrt (x := (vEr (ask x))) rfl (by simp [oneV, askK, hf0p]), M⟩
theorem one_0 {k : Int} {x : VL} (h : askK k x = 0) (hx : x.ok) (w : World) : Calls Tryz.prog 47 #[x.v, .int .i64 k] w fun e9 w' => e9 = .returned x.v ∧ Mo w w' := by
 have q := oneK_n k x w hx
 unfold oneV at q
 rw [if_pos h] at q
 exact q
theorem one_1 {k : Int} {x : VL} (h : ¬ askK k x = 0) (hx : x.ok) (w : World) : Calls Tryz.prog 47 #[x.v, .int .i64 k] w fun e9 w' => e9 = .returned (vEr (askK k x)).v ∧ Mo w w' := by
 have q := oneK_n k x w hx
 unfold oneV at q
 rw [if_neg h] at q
 exact q
end Go.Proofs.YtogomodbcjpfiaaGreatDoor
namespace Go.Proofs.YtogomodbcjpfiaaGreatDoor
open Go.ChangeShapes Go.WideShapes Go.ChangeAt Go.RowKit Go.ChangeMaps
set_option maxRecDepth 100000
theorem Tryz.cl42 : Tryz.prog.cellsOf 42 = 2 := by kernel_rfl
section
variable {H : Type} {enc : TypeId × Value → H} {W : World} {sp : Nat → Bool} {fuel : Nat} {cs : List Value} {x : DataW H × List MemPlace}
theorem cut2 (h : DataW.trod enc Tryz.prog W 0 sp true fuel 42 cs = some x) : x.2 = [] ∧ ∃ tk ts : Int, cs = [.int .i64 tk, .int .i64 ts] := by
 obtain ⟨xs, n, rfl, rfl, hl, hlen, hi⟩ := DataW.trod_struct Tryz.underlying42 h
 rw [Tryz.cl42] at hl
 obtain ⟨c0, c1, rfl⟩ : ∃ c0 c1, cs = [c0, c1] := by
  match cs, hl with
  | [a0, a1], _ => exact ⟨a0, a1, rfl⟩
 obtain ⟨y0, y1, rfl⟩ : ∃ y0 y1, xs = [y0, y1] := by
  match xs, hlen with
  | [a0, a1], _ => exact ⟨a0, a1, rfl⟩
 have i0 := hi 0 _ rfl
 have i1 := hi 1 _ rfl
 simp [Tryz.cl3] at i0 i1
 obtain ⟨K, e0, rfl, _⟩ := DataW.trod_int Tryz.underlying3 i0
 obtain ⟨er, e4, rfl, _⟩ := DataW.trod_int Tryz.underlying3 i1
 simp at e0 e4
 subst e0 e4
 exact ⟨rfl, K, er, rfl⟩
end
section
variable {H : Type} {enc : TypeId × Value → H} {W : World} {base : Nat} {v : Value} {d : DataW H} {p : List MemPlace}
theorem rd42 : Tryz.prog.readableRec 42 = true := by kernel_rfl
theorem rs42 : 42 < Tryz.prog.types.size := of_decide_eq_true (by kernel_rfl)
theorem open_type (hv : Value.okWide Tryz.prog W .any base 42 v) (h : DataW.Trod enc Tryz.prog W 0 (fun _ => true) true 42 v d p) : ∃ tk ts : Int, v = .agg #[.int .i64 tk, .int .i64 ts] ∧ p = [] ∧ ∀ (W' : World) (sp : Nat → Bool), DataW.Trod enc Tryz.prog W' 0 sp true 42 v d [] := by
 obtain ⟨cs, rfl, hsz, _⟩ : ∃ cs, v = .agg cs ∧ cs.size = Tryz.prog.cellsOf 42 ∧ Row.okWide Tryz.prog W .any base 42 cs := by
  simpa [Value.okWide, Tryz.underlying42] using hv
 obtain ⟨fuel, hf⟩ := id h
 obtain ⟨h0, tk, ts, h3⟩ := cut2 hf
 have h0' : p = [] := h0
 subst h0'
 refine ⟨tk, ts, ?_, rfl, fun W' sp => WideElems.Trod_stays Tryz.laidOut rd42 rs42 h (by simp) (by simp)⟩
 have : cs = #[.int .i64 tk, .int .i64 ts] := by
  have e := congrArg List.toArray h3
  simpa [Value.cells] using e
 rw [this]
end
end Go.Proofs.YtogomodbcjpfiaaGreatDoor
namespace Go.Proofs.YtogomodbcjpfiaaGreatDoor
open Go.RowKit
theorem badK {k : Int} {x : VL} (hx : x.ok) (h : ¬ askK k x = 0) : vBad (askK k x) = vEr (askK k x) := by
 refine bad_of ?_
 unfold askK at h ⊢
 split
 next q =>
  rw [if_pos q] at h
  split
  next g => rw [if_pos g] at h; exact absurd rfl h
  next => rfl
 next q => exact ask_isE hx q
theorem rrndV_n (x : VL) (S p : Int) (w : World) (hx : x.ok) : Calls Tryz.prog 24 #[x.v, .int .i64 S, .int .i64 p] w fun e9 w' => e9 = .returned (rndV x S p).v ∧ Mo w w' := by
 refine w_enter 21 Tryz.func24 Tryz.ntmps24 rfl rfl ?_
 have M : Mo w w := Mo.refl _
 refine w_seq (w_reg ?_)
 refine wl_box 28 (.tmp 0) _ (((x.cells).toArray)) rfl rfl (fun _ => by kernel_rfl) rfl ?_
 intro k1 u1 hk hz hq Q1
 have N_k1 : w.heap.size ≤ k1 := by have := M.size; omega
 replace M := M.trans hq
 clear hk hz hq
 refine wl_alloc 28 #[.int .i64 0, .bool false, .int .u64 0, .int .u64 0, .int .u64 0, .int .u64 0, .int .i64 0, .bool false, .string ⟨#[]⟩, .int .i64 0] rfl (fun _ => by kernel_rfl) rfl ?_
 intro k2 u2 hk hz hq Q2
 have ne_k1_k2 : k1 ≠ k2 := by have := Q1.lt; omega
 have N_k2 : w.heap.size ≤ k2 := by have := M.size; omega
 replace Q1 := Q1.mo hq
 replace M := M.trans hq
 clear hk hz hq
 refine w_nil (xn_then (w_seq (w_reg ?_)))
 refine wl_l 28 (.tmp 3) (pt k1 0) (.agg (x.cells).toArray) (run_row Q1 28 0 10 (x.cells) rfl Tryz.underlying28 rfl sz28) ?_
 cases hf0 : decide (askK (1) x = 0) with
 | true =>
  have hf0p := of_decide_eq_true hf0
  refine wl_call 47 [(.tmp 7), (.const (.int .i64 (1)))] _ [.agg (x.cells).toArray, .int .i64 (1)] (.agg (x.cells).toArray) rfl rfl (fun _ _ => by kernel_rfl) (one_0 hf0p hx _) rfl ?_
  intro u3 hq
  replace Q1 := Q1.mo hq
  replace Q2 := Q2.mo hq
  replace M := M.trans hq
  clear hq
  refine wl_st 28 (.tmp 3) (.tmp 8) k1 0 ((x.cells).toArray) (x.cells) (x.cells) Q1 rfl rfl rfl rfl rfl sz28 rfl rfl rfl ?_
  intro u4 hS Qn
  replace Q1 := Qn
  clear Qn
  replace Q2 := hS.other _ _ ne_k1_k2.symm Q2
  replace M := hS.mo _ N_k1 M
  clear hS
  refine w_nil (xn_then (w_seq (w_seq (w_reg ?_))))
  refine wl_f 28 0 (.tmp 3) (pt k1 0) (pt k1 0) ?_
  refine wl_l 3 (.tmp 9) (pt k1 0) (.int .i64 (x.k)) (run_one Q1 3 0 rfl Tryz.underlying3 rfl) ?_
  refine wl_b .eql 3 (.tmp 10) (.const (.int .i64 (4))) (.int .i64 (x.k)) (.int .i64 (4)) (.bool false) (eq3 (decide_eq_false (ask_0 hx (askK_0 hf0p).1).2.1) _ _ _) ?_
  refine w_nil (xn_then (w_condF rfl (w_skip (xn_then (w_seq (w_reg ?_))))))
  refine wl_f 28 1 (.tmp 3) (pt k1 0) (pt k1 1) ?_
  refine wl_l 26 (.tmp 13) (pt k1 1) (.agg #[.bool x.b, .int .u64 (l0 x.n), .int .u64 (l1 x.n), .int .u64 (l2 x.n), .int .u64 (l3 x.n), .int .i64 x.s]) (run_row Q1 26 1 6 _ rfl Tryz.underlying26 rfl sz26) ?_
  refine wl_m (.tmp 1) (.int .i64 (S)) ?_
  refine wl_m (.tmp 2) (.int .i64 (p)) ?_
  refine wl_call 52 [(.tmp 14), (.tmp 15), (.tmp 16)] _ [.agg #[.bool x.b, .int .u64 (l0 x.n), .int .u64 (l1 x.n), .int .u64 (l2 x.n), .int .u64 (l3 x.n), .int .i64 x.s], .int .i64 (S), .int .i64 (p)] (.tuple #[.agg #[.bool (rndR x.b x.n x.s S p).b, .int .u64 (l0 (rndR x.b x.n x.s S p).n), .int .u64 (l1 (rndR x.b x.n x.s S p).n), .int .u64 (l2 (rndR x.b x.n x.s S p).n), .int .u64 (l3 (rndR x.b x.n x.s S p).n), .int .i64 (rndR x.b x.n x.s S p).s], .int .i64 ((rndR x.b x.n x.s S p).e)]) rfl rfl (fun _ _ => by kernel_rfl) (qrnd_n x.b x.n x.s S p _ hx.1 hx.2 (num_of hx (by assumption))) rfl ?_
  intro u5 hq
  replace Q1 := Q1.mo hq
  replace Q2 := Q2.mo hq
  replace M := M.trans hq
  clear hq
  refine wl_un (fun v => Instr.extract v 0) (.tmp 17) (.tuple #[.agg #[.bool (rndR x.b x.n x.s S p).b, .int .u64 (l0 (rndR x.b x.n x.s S p).n), .int .u64 (l1 (rndR x.b x.n x.s S p).n), .int .u64 (l2 (rndR x.b x.n x.s S p).n), .int .u64 (l3 (rndR x.b x.n x.s S p).n), .int .i64 (rndR x.b x.n x.s S p).s], .int .i64 ((rndR x.b x.n x.s S p).e)]) (.agg #[.bool (rndR x.b x.n x.s S p).b, .int .u64 (l0 (rndR x.b x.n x.s S p).n), .int .u64 (l1 (rndR x.b x.n x.s S p).n), .int .u64 (l2 (rndR x.b x.n x.s S p).n), .int .u64 (l3 (rndR x.b x.n x.s S p).n), .int .i64 (rndR x.b x.n x.s S p).s]) (fun _ => rfl) rfl (by kernel_rfl) rfl ?_
  refine wl_un (fun v => Instr.extract v 1) (.tmp 17) (.tuple #[.agg #[.bool (rndR x.b x.n x.s S p).b, .int .u64 (l0 (rndR x.b x.n x.s S p).n), .int .u64 (l1 (rndR x.b x.n x.s S p).n), .int .u64 (l2 (rndR x.b x.n x.s S p).n), .int .u64 (l3 (rndR x.b x.n x.s S p).n), .int .i64 (rndR x.b x.n x.s S p).s], .int .i64 ((rndR x.b x.n x.s S p).e)]) (.int .i64 ((rndR x.b x.n x.s S p).e)) (fun _ => rfl) rfl (by kernel_rfl) rfl ?_
  refine wl_call 48 [(.tmp 18), (.tmp 19)] _ [.agg #[.bool (rndR x.b x.n x.s S p).b, .int .u64 (l0 (rndR x.b x.n x.s S p).n), .int .u64 (l1 (rndR x.b x.n x.s S p).n), .int .u64 (l2 (rndR x.b x.n x.s S p).n), .int .u64 (l3 (rndR x.b x.n x.s S p).n), .int .i64 (rndR x.b x.n x.s S p).s], .int .i64 ((rndR x.b x.n x.s S p).e)] (.agg ((numV (rndR x.b x.n x.s S p)).cells).toArray) rfl rfl (fun _ _ => by kernel_rfl) (told_n (rndR x.b x.n x.s S p) _) rfl ?_
  intro u6 hq
  replace Q1 := Q1.mo hq
  replace Q2 := Q2.mo hq
  replace M := M.trans hq
  clear hq
  refine wl_st 28 (.tmp 6) (.tmp 20) k2 0 (((numV (rndR x.b x.n x.s S p)).cells).toArray) _ ((numV (rndR x.b x.n x.s S p)).cells) Q2 rfl rfl rfl rfl rfl sz28 rfl rfl rfl ?_
  intro u7 hS Qn
  replace Q2 := Qn
  clear Qn
  replace Q1 := hS.other _ _ ne_k1_k2 Q1
  replace M := hS.mo _ N_k2 M
  clear hS
  refine w_nil (xn_then (w_ret ?_))
  exact w_ret1 _ (.agg ((numV (rndR x.b x.n x.s S p)).cells).toArray) rfl ⟨k2, rfl, (run_row Q2 28 0 10 ((numV (rndR x.b x.n x.s S p)).cells) rfl Tryz.underlying28 rfl sz28)⟩ ⟨vrt (x := (numV (rndR x.b x.n x.s S p))) rfl (by first | (simp [rndV, hf0p]; done) | (simp [rndV, hf0p]; rw [badK hx (by assumption)])), M⟩
 | false =>
  have hf0p := of_decide_eq_false hf0
  refine wl_call 47 [(.tmp 7), (.const (.int .i64 (1)))] _ [.agg (x.cells).toArray, .int .i64 (1)] (.agg ((vEr (askK (1) x)).cells).toArray) rfl rfl (fun _ _ => by kernel_rfl) (one_1 hf0p hx _) rfl ?_
  intro u3 hq
  replace Q1 := Q1.mo hq
  replace Q2 := Q2.mo hq
  replace M := M.trans hq
  clear hq
  refine wl_st 28 (.tmp 3) (.tmp 8) k1 0 (((vEr (askK (1) x)).cells).toArray) (x.cells) ((vEr (askK (1) x)).cells) Q1 rfl rfl rfl rfl rfl sz28 rfl rfl rfl ?_
  intro u4 hS Qn
  replace Q1 := Qn
  clear Qn
  replace Q2 := hS.other _ _ ne_k1_k2.symm Q2
  replace M := hS.mo _ N_k1 M
  clear hS
  refine w_nil (xn_then (w_seq (w_seq (w_reg ?_))))
  refine wl_f 28 0 (.tmp 3) (pt k1 0) (pt k1 0) ?_
  refine wl_l 3 (.tmp 9) (pt k1 0) (.int .i64 ((vEr (askK (1) x)).k)) (run_one Q1 3 0 rfl Tryz.underlying3 rfl) ?_
  refine wl_b .eql 3 (.tmp 10) (.const (.int .i64 (4))) (.int .i64 ((vEr (askK (1) x)).k)) (.int .i64 (4)) (.bool true) (eq3 rfl _ _ _) ?_
  refine w_nil (xn_then (w_condT rfl (w_seq (w_reg ?_))))
  refine wl_l 28 (.tmp 3) (pt k1 0) (.agg ((vEr (askK (1) x)).cells).toArray) (run_row Q1 28 0 10 ((vEr (askK (1) x)).cells) rfl Tryz.underlying28 rfl sz28) ?_
  refine wl_st 28 (.tmp 6) (.tmp 12) k2 0 (((vEr (askK (1) x)).cells).toArray) _ ((vEr (askK (1) x)).cells) Q2 rfl rfl rfl rfl rfl sz28 rfl rfl rfl ?_
  intro u5 hS Qn
  replace Q2 := Qn
  clear Qn
  replace Q1 := hS.other _ _ ne_k1_k2 Q1
  replace M := hS.mo _ N_k2 M
  clear hS
  refine w_nil (xn_then (w_ret (xr_then ?_)))
  exact w_ret1 _ (.agg ((vEr (askK (1) x)).cells).toArray) rfl ⟨k2, rfl, (run_row Q2 28 0 10 ((vEr (askK (1) x)).cells) rfl Tryz.underlying28 rfl sz28)⟩ ⟨vrt (x := (vEr (askK (1) x))) rfl (by first | (simp [rndV, hf0p]; done) | (simp [rndV, hf0p]; rw [badK hx (by assumption)])), M⟩
end Go.Proofs.YtogomodbcjpfiaaGreatDoor
namespace Go.Proofs.YtogomodbcjpfiaaGreatDoor
open Go.RowKit
theorem may_t {x : VL} (c : ckv x = true) (hx : x.ok) (w : World) : Calls Tryz.prog 50 #[x.v] w fun e9 w' => e9 = .returned x.v ∧ Mo w w' := by
 have q := may_n x w hx
 unfold mayV at q; rw [if_pos c] at q
 exact q
theorem may_f {x : VL} (c : ckv x = false) (hx : x.ok) (w : World) : Calls Tryz.prog 50 #[x.v] w fun e9 w' => e9 = .returned (vBad (2)).v ∧ Mo w w' := by
 have q := may_n x w hx
 unfold mayV at q; rw [if_neg (by rw [c]; decide)] at q
 exact q
theorem rfitV_n (x : VL) (tk ts p : Int) (w : World) (hx : x.ok) : Calls Tryz.prog 30 #[x.v, .agg #[.int .i64 tk, .int .i64 ts], .int .i64 p] w fun e9 w' => e9 = .returned (fitV x tk ts p).v ∧ Mo w w' := by
 refine w_enter 36 Tryz.func30 Tryz.ntmps30 rfl rfl ?_
 have M : Mo w w := Mo.refl _
 refine w_seq (w_reg ?_)
 refine wl_box 28 (.tmp 0) _ (((x.cells).toArray)) rfl rfl (fun _ => by kernel_rfl) rfl ?_
 intro k1 u1 hk hz hq Q1
 have N_k1 : w.heap.size ≤ k1 := by have := M.size; omega
 replace M := M.trans hq
 clear hk hz hq
 refine wl_box 42 (.tmp 1) _ (#[.int .i64 tk, .int .i64 ts]) rfl rfl (fun _ => by kernel_rfl) rfl ?_
 intro k2 u2 hk hz hq Q2
 have ne_k1_k2 : k1 ≠ k2 := by have := Q1.lt; omega
 have N_k2 : w.heap.size ≤ k2 := by have := M.size; omega
 replace Q1 := Q1.mo hq
 replace M := M.trans hq
 clear hk hz hq
 refine wl_alloc 28 #[.int .i64 0, .bool false, .int .u64 0, .int .u64 0, .int .u64 0, .int .u64 0, .int .i64 0, .bool false, .string ⟨#[]⟩, .int .i64 0] rfl (fun _ => by kernel_rfl) rfl ?_
 intro k3 u3 hk hz hq Q3
 have ne_k1_k3 : k1 ≠ k3 := by have := Q1.lt; omega
 have ne_k2_k3 : k2 ≠ k3 := by have := Q2.lt; omega
 have N_k3 : w.heap.size ≤ k3 := by have := M.size; omega
 replace Q1 := Q1.mo hq
 replace Q2 := Q2.mo hq
 replace M := M.trans hq
 clear hk hz hq
 refine w_nil (xn_then (w_seq (w_reg ?_)))
 refine wl_l 28 (.tmp 3) (pt k1 0) (.agg (x.cells).toArray) (run_row Q1 28 0 10 (x.cells) rfl Tryz.underlying28 rfl sz28) ?_
 cases hf0 : ckv x with
 | true =>
  refine wl_call 50 [(.tmp 7)] _ [.agg (x.cells).toArray] (.agg (x.cells).toArray) rfl rfl (fun _ _ => by kernel_rfl) (may_t hf0 hx _) rfl ?_
  intro u4 hq
  replace Q1 := Q1.mo hq
  replace Q2 := Q2.mo hq
  replace Q3 := Q3.mo hq
  replace M := M.trans hq
  clear hq
  refine wl_st 28 (.tmp 3) (.tmp 8) k1 0 ((x.cells).toArray) (x.cells) (x.cells) Q1 rfl rfl rfl rfl rfl sz28 rfl rfl rfl ?_
  intro u5 hS Qn
  replace Q1 := Qn
  clear Qn
  replace Q2 := hS.other _ _ ne_k1_k2.symm Q2
  replace Q3 := hS.other _ _ ne_k1_k3.symm Q3
  replace M := hS.mo _ N_k1 M
  clear hS
  refine w_nil (xn_then (w_seq (w_block (w_seq (w_reg ?_)))))
  refine wl_f 28 0 (.tmp 3) (pt k1 0) (pt k1 0) ?_
  refine wl_l 3 (.tmp 10) (pt k1 0) (.int .i64 (x.k)) (run_one Q1 3 0 rfl Tryz.underlying3 rfl) ?_
  cases hf1 : decide (x.k = 4) with
  | true =>
   have hf1p := of_decide_eq_true hf1
   refine wl_b .eql 3 (.tmp 11) (.const (.int .i64 (4))) (.int .i64 (x.k)) (.int .i64 (4)) (.bool true) (eq3 hf1 _ _ _) ?_
   refine wl_m (.tmp 12) (.bool true) ?_
   refine wl_skip rfl (wl_skip rfl (wl_skip rfl ?_))
   refine wl_pick (.tmp 13) (.const (.bool true)) (.tmp 16) true (.bool true) (fun _ => rfl) rfl rfl rfl ?_
   refine wl_m (.tmp 17) (.bool true) ?_
   refine w_nil (xn_then (w_condT rfl (w_seq (w_reg ?_))))
   refine wl_l 28 (.tmp 3) (pt k1 0) (.agg (x.cells).toArray) (run_row Q1 28 0 10 (x.cells) rfl Tryz.underlying28 rfl sz28) ?_
   refine wl_st 28 (.tmp 6) (.tmp 18) k3 0 ((x.cells).toArray) _ (x.cells) Q3 rfl rfl rfl rfl rfl sz28 rfl rfl rfl ?_
   intro u6 hS Qn
   replace Q3 := Qn
   clear Qn
   replace Q1 := hS.other _ _ ne_k1_k3 Q1
   replace Q2 := hS.other _ _ ne_k2_k3 Q2
   replace M := hS.mo _ N_k3 M
   clear hS
   refine w_nil (xn_then (w_ret (xr_blk (xr_then ?_))))
   exact w_ret1 _ (.agg (x.cells).toArray) rfl ⟨k3, rfl, (run_row Q3 28 0 10 (x.cells) rfl Tryz.underlying28 rfl sz28)⟩ ⟨vrt (x := x) rfl (by simp [fitV, hf0, if_pos hf1p]), M⟩
  | false =>
   have hf1p := of_decide_eq_false hf1
   refine wl_b .eql 3 (.tmp 11) (.const (.int .i64 (4))) (.int .i64 (x.k)) (.int .i64 (4)) (.bool false) (eq3 hf1 _ _ _) ?_
   refine wl_m (.tmp 12) (.bool false) ?_
   refine wl_f 28 0 (.tmp 3) (pt k1 0) (pt k1 0) ?_
   refine wl_l 3 (.tmp 14) (pt k1 0) (.int .i64 (x.k)) (run_one Q1 3 0 rfl Tryz.underlying3 rfl) ?_
   cases hf2 : decide (x.k = 0) with
   | true =>
    have hf2p := of_decide_eq_true hf2
    refine wl_b .eql 3 (.tmp 15) (.const (.int .i64 (0))) (.int .i64 (x.k)) (.int .i64 (0)) (.bool true) (eq3 hf2 _ _ _) ?_
    refine wl_pick (.tmp 13) (.const (.bool true)) (.tmp 16) false (.bool true) (fun _ => rfl) rfl rfl rfl ?_
    refine wl_m (.tmp 17) (.bool true) ?_
    refine w_nil (xn_then (w_condT rfl (w_seq (w_reg ?_))))
    refine wl_l 28 (.tmp 3) (pt k1 0) (.agg (x.cells).toArray) (run_row Q1 28 0 10 (x.cells) rfl Tryz.underlying28 rfl sz28) ?_
    refine wl_st 28 (.tmp 6) (.tmp 18) k3 0 ((x.cells).toArray) _ (x.cells) Q3 rfl rfl rfl rfl rfl sz28 rfl rfl rfl ?_
    intro u6 hS Qn
    replace Q3 := Qn
    clear Qn
    replace Q1 := hS.other _ _ ne_k1_k3 Q1
    replace Q2 := hS.other _ _ ne_k2_k3 Q2
    replace M := hS.mo _ N_k3 M
    clear hS
    refine w_nil (xn_then (w_ret (xr_blk (xr_then ?_))))
    exact w_ret1 _ (.agg (x.cells).toArray) rfl ⟨k3, rfl, (run_row Q3 28 0 10 (x.cells) rfl Tryz.underlying28 rfl sz28)⟩ ⟨vrt (x := x) rfl (by simp [fitV, hf0, if_pos hf2p]), M⟩
   | false =>
    have hf2p := of_decide_eq_false hf2
    refine wl_b .eql 3 (.tmp 15) (.const (.int .i64 (0))) (.int .i64 (x.k)) (.int .i64 (0)) (.bool false) (eq3 hf2 _ _ _) ?_
    refine wl_pick (.tmp 13) (.const (.bool true)) (.tmp 16) false (.bool false) (fun _ => rfl) rfl rfl rfl ?_
    refine wl_m (.tmp 17) (.bool false) ?_
    refine w_nil (xn_then (w_condF rfl (w_seq (w_reg ?_))))
    refine wl_f 28 0 (.tmp 3) (pt k1 0) (pt k1 0) ?_
    refine wl_l 3 (.tmp 20) (pt k1 0) (.int .i64 (x.k)) (run_one Q1 3 0 rfl Tryz.underlying3 rfl) ?_
    refine wl_f 42 0 (.tmp 4) (pt k2 0) (pt k2 0) ?_
    refine wl_l 3 (.tmp 22) (pt k2 0) (.int .i64 (tk)) (run_one Q2 3 0 rfl Tryz.underlying3 rfl) ?_
    cases hf3 : decide (x.k = tk) with
    | true =>
     have hf3p := of_decide_eq_true hf3
     refine wl_b .neq 3 (.tmp 21) (.tmp 23) (.int .i64 (x.k)) (.int .i64 (tk)) (.bool false) (ne3 hf3 _ _ _) ?_
     refine wl_m (.tmp 24) (.bool false) ?_
     refine w_nil (xn_then (w_condF rfl (w_seq (w_reg ?_))))
     refine wl_f 28 0 (.tmp 3) (pt k1 0) (pt k1 0) ?_
     refine wl_l 3 (.tmp 27) (pt k1 0) (.int .i64 (x.k)) (run_one Q1 3 0 rfl Tryz.underlying3 rfl) ?_
     cases hf4 : decide (x.k = 1) with
     | true =>
      have hf4p := of_decide_eq_true hf4
      refine wl_b .eql 3 (.tmp 28) (.const (.int .i64 (1))) (.int .i64 (x.k)) (.int .i64 (1)) (.bool true) (eq3 hf4 _ _ _) ?_
      refine wl_m (.tmp 29) (.bool true) ?_
      refine w_nil (xn_then (w_condT rfl (w_seq (w_reg ?_))))
      refine wl_l 28 (.tmp 3) (pt k1 0) (.agg (x.cells).toArray) (run_row Q1 28 0 10 (x.cells) rfl Tryz.underlying28 rfl sz28) ?_
      refine wl_f 42 1 (.tmp 4) (pt k2 0) (pt k2 1) ?_
      refine wl_l 3 (.tmp 31) (pt k2 1) (.int .i64 (ts)) (run_one Q2 3 1 rfl Tryz.underlying3 rfl) ?_
      refine wl_m (.tmp 2) (.int .i64 (p)) ?_
      refine wl_call 24 [(.tmp 30), (.tmp 32), (.tmp 33)] _ [.agg (x.cells).toArray, .int .i64 (ts), .int .i64 (p)] (.agg ((rndV x ts p).cells).toArray) rfl rfl (fun _ _ => by kernel_rfl) (rrndV_n x ts p _ hx) rfl ?_
      intro u6 hq
      replace Q1 := Q1.mo hq
      replace Q2 := Q2.mo hq
      replace Q3 := Q3.mo hq
      replace M := M.trans hq
      clear hq
      refine wl_st 28 (.tmp 6) (.tmp 34) k3 0 (((rndV x ts p).cells).toArray) _ ((rndV x ts p).cells) Q3 rfl rfl rfl rfl rfl sz28 rfl rfl rfl ?_
      intro u7 hS Qn
      replace Q3 := Qn
      clear Qn
      replace Q1 := hS.other _ _ ne_k1_k3 Q1
      replace Q2 := hS.other _ _ ne_k2_k3 Q2
      replace M := hS.mo _ N_k3 M
      clear hS
      refine w_nil (xn_then (w_ret (xr_blk (xr_then ?_))))
      exact w_ret1 _ (.agg ((rndV x ts p).cells).toArray) rfl ⟨k3, rfl, (run_row Q3 28 0 10 ((rndV x ts p).cells) rfl Tryz.underlying28 rfl sz28)⟩ ⟨vrt (x := (rndV x ts p)) rfl (by simp [fitV, hf0, if_neg hf1p, if_neg hf2p, if_pos hf3p, if_pos hf4p]), M⟩
     | false =>
      have hf4p := of_decide_eq_false hf4
      refine wl_b .eql 3 (.tmp 28) (.const (.int .i64 (1))) (.int .i64 (x.k)) (.int .i64 (1)) (.bool false) (eq3 hf4 _ _ _) ?_
      refine wl_m (.tmp 29) (.bool false) ?_
      refine w_nil (xn_then (w_condF rfl (w_skip (xn_blk (xn_then (w_seq (w_reg ?_)))))))
      refine wl_l 28 (.tmp 3) (pt k1 0) (.agg (x.cells).toArray) (run_row Q1 28 0 10 (x.cells) rfl Tryz.underlying28 rfl sz28) ?_
      refine wl_st 28 (.tmp 6) (.tmp 35) k3 0 ((x.cells).toArray) _ (x.cells) Q3 rfl rfl rfl rfl rfl sz28 rfl rfl rfl ?_
      intro u6 hS Qn
      replace Q3 := Qn
      clear Qn
      replace Q1 := hS.other _ _ ne_k1_k3 Q1
      replace Q2 := hS.other _ _ ne_k2_k3 Q2
      replace M := hS.mo _ N_k3 M
      clear hS
      refine w_nil (xn_then (w_ret ?_))
      exact w_ret1 _ (.agg (x.cells).toArray) rfl ⟨k3, rfl, (run_row Q3 28 0 10 (x.cells) rfl Tryz.underlying28 rfl sz28)⟩ ⟨vrt (x := x) rfl (by simp [fitV, hf0, if_pos hf3p, if_neg hf4p]), M⟩
    | false =>
     have hf3p := of_decide_eq_false hf3
     refine wl_b .neq 3 (.tmp 21) (.tmp 23) (.int .i64 (x.k)) (.int .i64 (tk)) (.bool true) (ne3 hf3 _ _ _) ?_
     refine wl_m (.tmp 24) (.bool true) ?_
     refine w_nil (xn_then (w_condT rfl (w_seq (w_reg ?_))))
     refine wl_call 16 [(.const (.int .i64 (2)))] _ [.int .i64 (2)] (.agg ((vBad (2)).cells).toArray) rfl rfl (fun _ _ => by kernel_rfl) (rbad_n (2) _) rfl ?_
     intro u6 hq
     replace Q1 := Q1.mo hq
     replace Q2 := Q2.mo hq
     replace Q3 := Q3.mo hq
     replace M := M.trans hq
     clear hq
     refine wl_st 28 (.tmp 6) (.tmp 25) k3 0 (((vBad (2)).cells).toArray) _ ((vBad (2)).cells) Q3 rfl rfl rfl rfl rfl sz28 rfl rfl rfl ?_
     intro u7 hS Qn
     replace Q3 := Qn
     clear Qn
     replace Q1 := hS.other _ _ ne_k1_k3 Q1
     replace Q2 := hS.other _ _ ne_k2_k3 Q2
     replace M := hS.mo _ N_k3 M
     clear hS
     refine w_nil (xn_then (w_ret (xr_blk (xr_then ?_))))
     exact w_ret1 _ (.agg ((vBad (2)).cells).toArray) rfl ⟨k3, rfl, (run_row Q3 28 0 10 ((vBad (2)).cells) rfl Tryz.underlying28 rfl sz28)⟩ ⟨vrt (x := (vBad (2))) rfl (by simp [fitV, hf0, if_neg hf1p, if_neg hf2p, if_neg hf3p]), M⟩
 | false =>
  refine wl_call 50 [(.tmp 7)] _ [.agg (x.cells).toArray] (.agg ((vBad (2)).cells).toArray) rfl rfl (fun _ _ => by kernel_rfl) (may_f hf0 hx _) rfl ?_
  intro u4 hq
  replace Q1 := Q1.mo hq
  replace Q2 := Q2.mo hq
  replace Q3 := Q3.mo hq
  replace M := M.trans hq
  clear hq
  refine wl_st 28 (.tmp 3) (.tmp 8) k1 0 (((vBad (2)).cells).toArray) (x.cells) ((vBad (2)).cells) Q1 rfl rfl rfl rfl rfl sz28 rfl rfl rfl ?_
  intro u5 hS Qn
  replace Q1 := Qn
  clear Qn
  replace Q2 := hS.other _ _ ne_k1_k2.symm Q2
  replace Q3 := hS.other _ _ ne_k1_k3.symm Q3
  replace M := hS.mo _ N_k1 M
  clear hS
  refine w_nil (xn_then (w_seq (w_block (w_seq (w_reg ?_)))))
  refine wl_f 28 0 (.tmp 3) (pt k1 0) (pt k1 0) ?_
  refine wl_l 3 (.tmp 10) (pt k1 0) (.int .i64 ((vBad (2)).k)) (run_one Q1 3 0 rfl Tryz.underlying3 rfl) ?_
  refine wl_b .eql 3 (.tmp 11) (.const (.int .i64 (4))) (.int .i64 ((vBad (2)).k)) (.int .i64 (4)) (.bool true) (eq3 rfl _ _ _) ?_
  refine wl_m (.tmp 12) (.bool true) ?_
  refine wl_skip rfl (wl_skip rfl (wl_skip rfl ?_))
  refine wl_pick (.tmp 13) (.const (.bool true)) (.tmp 16) true (.bool true) (fun _ => rfl) rfl rfl rfl ?_
  refine wl_m (.tmp 17) (.bool true) ?_
  refine w_nil (xn_then (w_condT rfl (w_seq (w_reg ?_))))
  refine wl_l 28 (.tmp 3) (pt k1 0) (.agg ((vBad (2)).cells).toArray) (run_row Q1 28 0 10 ((vBad (2)).cells) rfl Tryz.underlying28 rfl sz28) ?_
  refine wl_st 28 (.tmp 6) (.tmp 18) k3 0 (((vBad (2)).cells).toArray) _ ((vBad (2)).cells) Q3 rfl rfl rfl rfl rfl sz28 rfl rfl rfl ?_
  intro u6 hS Qn
  replace Q3 := Qn
  clear Qn
  replace Q1 := hS.other _ _ ne_k1_k3 Q1
  replace Q2 := hS.other _ _ ne_k2_k3 Q2
  replace M := hS.mo _ N_k3 M
  clear hS
  refine w_nil (xn_then (w_ret (xr_blk (xr_then ?_))))
  exact w_ret1 _ (.agg ((vBad (2)).cells).toArray) rfl ⟨k3, rfl, (run_row Q3 28 0 10 ((vBad (2)).cells) rfl Tryz.underlying28 rfl sz28)⟩ ⟨vrt (x := (vBad (2))) rfl (by simp [fitV, hf0]), M⟩
end Go.Proofs.YtogomodbcjpfiaaGreatDoor
namespace Go.Proofs.YtogomodbcjpfiaaGreatDoor.V
open Go.RowKit
theorem sz42 : (Tryz.prog.info? 42).map (·.size) = some 2 := by kernel_rfl
theorem fits_law (x : VL) (tk ts p : Int) (w : World) (hx : x.ok) : Calls Tryz.prog 6 #[x.v, .agg #[.int .i64 tk, .int .i64 ts], .int .i64 p] w fun e9 w' => e9 = .returned (.bool true) ∧ Mw w w' := by
 refine w_enter 19 Tryz.func6 Tryz.ntmps6 rfl rfl ?_
 have M : Mw w w := Mw.refl _
 refine w_seq (w_reg ?_)
 refine wl_box 28 (.tmp 0) _ (((x.cells).toArray)) rfl rfl (fun _ => by kernel_rfl) rfl ?_
 intro k1 u1 hk hz hq Q1
 have N_k1 : w.heap.size ≤ k1 := by have := M.size; omega
 replace M := M.trans hq
 clear hk hz hq
 refine wl_box 42 (.tmp 1) _ (#[.int .i64 tk, .int .i64 ts]) rfl rfl (fun _ => by kernel_rfl) rfl ?_
 intro k2 u2 hk hz hq Q2
 have ne_k1_k2 : k1 ≠ k2 := by have := Q1.lt; omega
 have N_k2 : w.heap.size ≤ k2 := by have := M.size; omega
 replace Q1 := Q1.mo hq
 replace M := M.trans hq
 clear hk hz hq
 refine wl_m (.const (.bool false)) (.bool false) ?_
 refine w_nil (xn_then (w_seq ?_))
 refine w_any 9 [.inl (.bool true), .inl (.bool true), .inl (.agg (x.cells).toArray), .inl (.agg #[.int .i64 tk, .int .i64 ts]), .inl (.int .i64 (p)), .inl (.agg ((fitV x tk ts p).cells).toArray), .inl (.agg (x.cells).toArray), .inl (.agg #[.int .i64 tk, .int .i64 ts]), .inl (.int .i64 (p))] [] (by kernel_rfl) (by kernel_rfl) (by kernel_rfl) (by kernel_rfl) rfl (by kernel_rfl) (by kernel_rfl) late_nil ?_ ?_ ?_
 ·exact Ds.none rfl
 ·refine ea_cons ?_ (ea_cons ?_ (ea_cons ?_ (ea_cons ?_ (ea_cons ?_ (ea_cons ?_ (ea_cons ?_ (ea_cons ?_ (ea_cons ?_ (ea_nil)))))))))
  ·exact og_eq _ rfl (fun f wf hq hd K hK => go_run rfl (wo_call 10 [] _ [] (.bool true) rfl rfl (fun _ _ => by kernel_rfl) (live_n _) hK))
  ·exact og_eq _ rfl (fun f wf hq hd K hK => go_run rfl (wo_mv (.tmp 7) (.bool true) (fun _ => rfl) (hd 0 rfl) (hK _ (Mw.refl _))))
  ·exact og_eq _ rfl (fun f wf hq hd K hK => have Q1 := Q1.mo hq; go_run (wnt_g rfl rfl rfl (hd 1 rfl) rfl) (wo_load 28 (.tmp 3) (pt k1 0) (.agg (x.cells).toArray) rfl rfl (run_row Q1 28 0 10 (x.cells) rfl Tryz.underlying28 rfl sz28) (hK _ (Mw.refl _))))
  ·exact og_eq _ rfl (fun f wf hq hd K hK => have Q2 := Q2.mo hq; go_run (wnt_g rfl rfl rfl (hd 1 rfl) rfl) (wo_load 42 (.tmp 4) (pt k2 0) (.agg #[.int .i64 tk, .int .i64 ts]) rfl rfl (run_row Q2 42 0 2 _ rfl Tryz.underlying42 rfl sz42) (hK _ (Mw.refl _))))
  ·exact og_eq _ rfl (fun f wf hq hd K hK => go_run (wnt_g rfl rfl rfl (hd 1 rfl) rfl) (wo_mv (.tmp 2) (.int .i64 (p)) (fun _ => rfl) rfl (hK _ (Mw.refl _))))
  ·exact og_eq _ rfl (fun f wf hq hd K hK => go_run (wnt_g rfl rfl rfl (hd 1 rfl) rfl) (wo_call 29 [(.tmp 9), (.tmp 10), (.tmp 11)] _ [.agg (x.cells).toArray, .agg #[.int .i64 tk, .int .i64 ts], .int .i64 (p)] (.agg ((fitV x tk ts p).cells).toArray) rfl (li3 (hd 2 rfl) (hd 3 rfl) (hd 4 rfl)) (fun _ _ => by kernel_rfl) (wk (fit_n x tk ts p _ hx)) hK))
  ·exact og_eq _ rfl (fun f wf hq hd K hK => have Q1 := Q1.mo hq; go_run (wnt_g rfl rfl rfl (hd 1 rfl) rfl) (wo_load 28 (.tmp 3) (pt k1 0) (.agg (x.cells).toArray) rfl rfl (run_row Q1 28 0 10 (x.cells) rfl Tryz.underlying28 rfl sz28) (hK _ (Mw.refl _))))
  ·exact og_eq _ rfl (fun f wf hq hd K hK => have Q2 := Q2.mo hq; go_run (wnt_g rfl rfl rfl (hd 1 rfl) rfl) (wo_load 42 (.tmp 4) (pt k2 0) (.agg #[.int .i64 tk, .int .i64 ts]) rfl rfl (run_row Q2 42 0 2 _ rfl Tryz.underlying42 rfl sz42) (hK _ (Mw.refl _))))
  ·exact og_eq _ rfl (fun f wf hq hd K hK => go_run (wnt_g rfl rfl rfl (hd 1 rfl) rfl) (wo_mv (.tmp 2) (.int .i64 (p)) (fun _ => rfl) rfl (hK _ (Mw.refl _))))
 intro kf3 u3 hq hR hne
 replace Q1 := Q1.mo hq
 replace Q2 := Q2.mo hq
 replace M := M.trans hq
 clear hq hR hne
 refine wl_call 30 [(.tmp 13), (.tmp 14), (.tmp 15)] _ [.agg (x.cells).toArray, .agg #[.int .i64 tk, .int .i64 ts], .int .i64 (p)] (.agg ((fitV x tk ts p).cells).toArray) rfl rfl (fun _ _ => by kernel_rfl) (wk (rfitV_n x tk ts p _ hx)) rfl ?_
 intro u4 hq
 replace Q1 := Q1.mo hq
 replace Q2 := Q2.mo hq
 replace M := M.trans hq
 clear hq
 refine wl_b .eql 28 (.tmp 12) (.tmp 16) (.agg ((fitV x tk ts p).cells).toArray) (.agg ((fitV x tk ts p).cells).toArray) (.bool true) (eqW (svv_self _) _ _ _) ?_
 refine wl_pick (.tmp 8) (.tmp 17) (.const (.bool false)) true (.bool true) (fun _ => rfl) rfl rfl rfl ?_
 refine wl_m (.tmp 18) (.bool true) ?_
 refine w_nil (xn_then (w_ret ?_))
 exact w_ret1 _ _ rfl rfl ⟨rfl, M⟩
end Go.Proofs.YtogomodbcjpfiaaGreatDoor.V

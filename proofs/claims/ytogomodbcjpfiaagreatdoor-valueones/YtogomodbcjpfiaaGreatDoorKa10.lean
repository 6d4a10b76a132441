/-
  A part of the proof.
-/
import Derived.Test.YtogomodbcjpfiaaGreatDoorKa9
import Derived.Test.YtogomodbcjpfiaaGreatDoorKa8
import Derived.Test.YtogomodbcjpfiaaGreatDoorKa5
import Derived.Test.YtogomodbcjpfiaaGreatDoorKa4
import Derived.Test.YtogomodbcjpfiaaGreatDoorKa1
import Derived.Test.YtogomodbcjpfiaaGreatDoorProg
import Derived.WalkKit
import Derived.WalkSpells
import Derived.Handy
import Derived.BigQuiet
import Derived.Deep.RegionHeld3
import Derived.Shelf.Small.Bits
import Derived.Shelf.Strconv.Itoa0
import Derived.Shelf.Bits.Mul64
import Derived.Deep.CutBlock
import Derived.Deep.CutRange
import Derived.Test.YtogomodbcjpfiaaGreatDoorKa7
import Derived.Test.YtogomodbcjpfiaaGreatDoorKa6
import Derived.ChangeKeysEq
import Derived.ScopeJumps
import Derived.WalkMore
import Derived.Laws.StructEq
import Derived.Deep.MidRow
namespace Go.Proofs.YtogomodbcjpfiaaGreatDoor
open Go.RowKit
theorem lifted_bd {n : Int} {i : Nat} (h0 : 0 ≤ n) (h : n < MM) (hi : i ≤ 77) : 0 ≤ n * 10 ^ i ∧ n * 10 ^ i < MM * MM := by
 obtain ⟨t0, t1⟩ := ten_bd i hi
 refine ⟨Int.mul_nonneg h0 (by omega), ?_⟩
 have a : n * 10 ^ i ≤ n * MM := Int.mul_le_mul_of_nonneg_left (by omega) h0
 have b : n * MM < MM * MM := Int.mul_lt_mul_of_pos_right h (by decide)
 omega
set_option maxHeartbeats 4000000 in
theorem dcmp_ne (b c : Bool) (n m s t : Int) (w : World) (hn0 : 0 ≤ n) (hn : n < MM) (hm0 : 0 ≤ m) (hm : m < MM) (h1 : ck b n s = 0) (h2 : ck c m t = 0) (ho : cm (sg b n) (sg c m) ≠ 0) :
  Calls Tryz.prog 63 #[dc b n s, dc c m t] w fun e w' => e = .returned (.int .i64 (cm (sg b n) (sg c m))) ∧ Mo w w' := by
 have hO : (cm (sg b n) (sg c m) == 0) = false := by simp [ho]
 have hO2 : (cm (sg b n) (sg c m) != 0) = true := by simp [ho]
 clear ho
 go_enter Tryz.func63, Tryz.ntmps63
 go_wp2_with fail
 refine (both_ok b n s c m t _ hn0 hn hm0 hm h1 h2).mono ?_
 rintro e w1 ⟨rfl, hm1⟩
 have mz : Mo w w1 := Mo.trans (by repeat (first | with_reducible exact Mo.refl _ | with_reducible apply Mo.drew | with_reducible apply Mo.alloc)) hm1
 have M := mz
 have Qa : AtD w1 (w.heap.size) b n s := AtD.mo ⟨by simp [go_sem], fun o => by simp [go_sem], by simp <;> omega⟩ hm1
 have Qb : AtD w1 (w.heap.size + 1) c m t := AtD.mo ⟨by simp [go_sem], fun o => by simp [go_sem], by simp <;> omega⟩ hm1
 clear hm1 mz
 have Oa := Qa
 obtain ⟨⟨ca0, ca1, ca2, ca3, ca4, ca5⟩, fa, sa⟩ := Oa
 have fa := fun o => fa o
 have sxa : w.heap.size < w1.heap.size + 1 := by omega
 have sya : w.heap.size < w1.heap.size + 1 + 1 := by omega
 have Ob := Qb
 obtain ⟨⟨cb0, cb1, cb2, cb3, cb4, cb5⟩, fb, sb⟩ := Ob
 have fb := fun o => fb o
 have sxb : w.heap.size + 1 < w1.heap.size + 1 := by omega
 have syb : w.heap.size + 1 < w1.heap.size + 1 + 1 := by omega
 go_upto_region 3 with fail
 go_cut [5] from 12 to 16 (fun s5 wx => s5 = .int .i64 (cm (sg b n) (sg c m)) ∧ Mo w wx ∧ AtD wx w.heap.size b n s ∧ AtD wx (w.heap.size + 1) c m t)
 case first =>
  go_region_held3 (fun w' => w'.cell? ⟨w.heap.size, 0, none⟩ = some (.bool b) ∧ w'.cell? ⟨w.heap.size, 1, none⟩ = some (.int .u64 (l0 n)) ∧ w'.cell? ⟨w.heap.size, 2, none⟩ = some (.int .u64 (l1 n)) ∧ w'.cell? ⟨w.heap.size, 3, none⟩ = some (.int .u64 (l2 n)) ∧ w'.cell? ⟨w.heap.size, 4, none⟩ = some (.int .u64 (l3 n)) ∧ w'.cell? ⟨w.heap.size, 5, none⟩ = some (.int .i64 s) ∧ w'.cell? ⟨w.heap.size + 1, 0, none⟩ = some (.bool c) ∧ w'.cell? ⟨w.heap.size + 1, 1, none⟩ = some (.int .u64 (l0 m)) ∧ w'.cell? ⟨w.heap.size + 1, 2, none⟩ = some (.int .u64 (l1 m)) ∧ w'.cell? ⟨w.heap.size + 1, 3, none⟩ = some (.int .u64 (l2 m)) ∧ w'.cell? ⟨w.heap.size + 1, 4, none⟩ = some (.int .u64 (l3 m)) ∧ w'.cell? ⟨w.heap.size + 1, 5, none⟩ = some (.int .i64 t)) (simp [go_sem, *])
   (first | (go_at_call 94; refine (compare_n _ _ _).mono ?_; rintro e w5 ⟨rfl, hm5⟩; have m5 : Mo w4 w5 := Mo.trans (by repeat (first | with_reducible exact Mo.refl _ | with_reducible apply Mo.drew | with_reducible apply Mo.alloc)) hm5; have m6 := (m3.trans m4).trans m5; obtain ⟨⟨i0, i1, i2, i3, i4, i5⟩, _, is⟩ := Qa.mo m6; obtain ⟨⟨j0, j1, j2, j3, j4, j5⟩, _, js⟩ := Qb.mo m6) | (go_at_call 95; have m33 := m3; refine (sign_n c m t _ hm0 hm).mono ?_; rintro e w4 ⟨rfl, hm4⟩; have m4 : Mo w3 w4 := Mo.trans (by repeat (first | with_reducible exact Mo.refl _ | with_reducible apply Mo.drew | with_reducible apply Mo.alloc)) hm4; obtain ⟨⟨g0, g1, g2, g3, g4, g5⟩, _, gs⟩ := Qa.mo (m3.trans m4); obtain ⟨⟨k0, k1, k2, k3, k4, k5⟩, _, ks⟩ := Qb.mo (m3.trans m4)) | (go_at_call 95; refine (sign_n b n s _ hn0 hn).mono ?_; rintro e w3 ⟨rfl, hm3⟩; have m3 : Mo w1 w3 := Mo.trans (by repeat (first | with_reducible exact Mo.refl _ | with_reducible apply Mo.drew | with_reducible apply Mo.alloc)) hm3; obtain ⟨⟨e0, e1, e2, e3, e4, e5⟩, _, es⟩ := Qa.mo m3; obtain ⟨⟨f0, f1, f2, f3, f4, f5⟩, _, fs⟩ := Qb.mo m3))
  all_goals
   go_wp2
   go_meet
   case rel => exact ⟨rfl, M.trans m6, Qa.mo m6, Qb.mo m6⟩
 case rest =>
  clear ca0 ca1 ca2 ca3 ca4 ca5 fa sa sxa sya cb0 cb1 cb2 cb3 cb4 cb5 fb sb sxb syb Qa Qb M
  obtain ⟨rfl, M, Qa, Qb⟩ := hcut
  have Oa := Qa
  obtain ⟨⟨ca0, ca1, ca2, ca3, ca4, ca5⟩, fa, sa⟩ := Oa
  have fa := fun o => fa o
  have sxa : w.heap.size < wc.heap.size + 1 := by omega
  have sya : w.heap.size < wc.heap.size + 1 + 1 := by omega
  have Ob := Qb
  obtain ⟨⟨cb0, cb1, cb2, cb3, cb4, cb5⟩, fb, sb⟩ := Ob
  have fb := fun o => fb o
  have sxb : w.heap.size + 1 < wc.heap.size + 1 := by omega
  have syb : w.heap.size + 1 < wc.heap.size + 1 + 1 := by omega
  go_wp2
  go_ret
  exact ⟨rfl, M⟩
set_option maxHeartbeats 4000000 in
theorem dcmp_pos (b c : Bool) (n m s t : Int) (w : World) (hn0 : 0 ≤ n) (hn : n < MM) (hm0 : 0 ≤ m) (hm : m < MM) (h1 : ck b n s = 0) (h2 : ck c m t = 0) (S : Int) (i j : Nat) (hS : max s t = S) (hi : S - s = (i : Int)) (hj : S - t = (j : Int)) (hi7 : i ≤ 18) (hj7 : j ≤ 18) (hb : b = false) (ho : cm (sg b n) (sg c m) = 0) :
  Calls Tryz.prog 63 #[dc b n s, dc c m t] w fun e w' => e = .returned (.int .i64 (cm (n * 10 ^ i) (m * 10 ^ j))) ∧ Mo w w' := by
 subst hb
 subst hS
 have bX := lifted_bd hn0 hn (show i ≤ 77 by omega)
 have bY := lifted_bd hm0 hm (show j ≤ 77 by omega)
 have HI : Hid _ := hi
 have HJ : Hid _ := hj
 clear hi hj
 have hO : (cm (sg false n) (sg c m) == 0) = true := by simp [ho]
 have hO2 : (cm (sg false n) (sg c m) != 0) = false := by simp [ho]
 clear ho
 go_enter Tryz.func63, Tryz.ntmps63
 go_wp2_with fail
 refine (both_ok false n s c m t _ hn0 hn hm0 hm h1 h2).mono ?_
 rintro e w1 ⟨rfl, hm1⟩
 have mz : Mo w w1 := Mo.trans (by repeat (first | with_reducible exact Mo.refl _ | with_reducible apply Mo.drew | with_reducible apply Mo.alloc)) hm1
 have M := mz
 have Qa : AtD w1 (w.heap.size) false n s := AtD.mo ⟨by simp [go_sem], fun o => by simp [go_sem], by simp <;> omega⟩ hm1
 have Qb : AtD w1 (w.heap.size + 1) c m t := AtD.mo ⟨by simp [go_sem], fun o => by simp [go_sem], by simp <;> omega⟩ hm1
 clear hm1 mz
 have Oa := Qa
 obtain ⟨⟨ca0, ca1, ca2, ca3, ca4, ca5⟩, fa, sa⟩ := Oa
 have fa := fun o => fa o
 have sxa : w.heap.size < w1.heap.size + 1 := by omega
 have sya : w.heap.size < w1.heap.size + 1 + 1 := by omega
 have Ob := Qb
 obtain ⟨⟨cb0, cb1, cb2, cb3, cb4, cb5⟩, fb, sb⟩ := Ob
 have fb := fun o => fb o
 have sxb : w.heap.size + 1 < w1.heap.size + 1 := by omega
 have syb : w.heap.size + 1 < w1.heap.size + 1 + 1 := by omega
 go_upto_region 3 with fail
 go_cut [5] from 12 to 16 (fun s5 wx => s5 = .int .i64 (cm (sg false n) (sg c m)) ∧ Mo w wx ∧ AtD wx w.heap.size false n s ∧ AtD wx (w.heap.size + 1) c m t)
 case first =>
  go_region_held3 (fun w' => w'.cell? ⟨w.heap.size, 0, none⟩ = some (.bool false) ∧ w'.cell? ⟨w.heap.size, 1, none⟩ = some (.int .u64 (l0 n)) ∧ w'.cell? ⟨w.heap.size, 2, none⟩ = some (.int .u64 (l1 n)) ∧ w'.cell? ⟨w.heap.size, 3, none⟩ = some (.int .u64 (l2 n)) ∧ w'.cell? ⟨w.heap.size, 4, none⟩ = some (.int .u64 (l3 n)) ∧ w'.cell? ⟨w.heap.size, 5, none⟩ = some (.int .i64 s) ∧ w'.cell? ⟨w.heap.size + 1, 0, none⟩ = some (.bool c) ∧ w'.cell? ⟨w.heap.size + 1, 1, none⟩ = some (.int .u64 (l0 m)) ∧ w'.cell? ⟨w.heap.size + 1, 2, none⟩ = some (.int .u64 (l1 m)) ∧ w'.cell? ⟨w.heap.size + 1, 3, none⟩ = some (.int .u64 (l2 m)) ∧ w'.cell? ⟨w.heap.size + 1, 4, none⟩ = some (.int .u64 (l3 m)) ∧ w'.cell? ⟨w.heap.size + 1, 5, none⟩ = some (.int .i64 t)) (simp [go_sem, *])
   (first | (go_at_call 94; refine (compare_n _ _ _).mono ?_; rintro e w5 ⟨rfl, hm5⟩; have m5 : Mo w4 w5 := Mo.trans (by repeat (first | with_reducible exact Mo.refl _ | with_reducible apply Mo.drew | with_reducible apply Mo.alloc)) hm5; have m6 := (m3.trans m4).trans m5; obtain ⟨⟨i0, i1, i2, i3, i4, i5⟩, _, is⟩ := Qa.mo m6; obtain ⟨⟨j0, j1, j2, j3, j4, j5⟩, _, js⟩ := Qb.mo m6) | (go_at_call 95; have m33 := m3; refine (sign_n c m t _ hm0 hm).mono ?_; rintro e w4 ⟨rfl, hm4⟩; have m4 : Mo w3 w4 := Mo.trans (by repeat (first | with_reducible exact Mo.refl _ | with_reducible apply Mo.drew | with_reducible apply Mo.alloc)) hm4; obtain ⟨⟨g0, g1, g2, g3, g4, g5⟩, _, gs⟩ := Qa.mo (m3.trans m4); obtain ⟨⟨k0, k1, k2, k3, k4, k5⟩, _, ks⟩ := Qb.mo (m3.trans m4)) | (go_at_call 95; refine (sign_n false n s _ hn0 hn).mono ?_; rintro e w3 ⟨rfl, hm3⟩; have m3 : Mo w1 w3 := Mo.trans (by repeat (first | with_reducible exact Mo.refl _ | with_reducible apply Mo.drew | with_reducible apply Mo.alloc)) hm3; obtain ⟨⟨e0, e1, e2, e3, e4, e5⟩, _, es⟩ := Qa.mo m3; obtain ⟨⟨f0, f1, f2, f3, f4, f5⟩, _, fs⟩ := Qb.mo m3))
  all_goals
   go_wp2
   go_meet
   case rel => exact ⟨rfl, M.trans m6, Qa.mo m6, Qb.mo m6⟩
 case rest =>
  clear ca0 ca1 ca2 ca3 ca4 ca5 fa sa sxa sya cb0 cb1 cb2 cb3 cb4 cb5 fb sb sxb syb Qa Qb M
  obtain ⟨rfl, M, Qa, Qb⟩ := hcut
  have Oa := Qa
  obtain ⟨⟨ca0, ca1, ca2, ca3, ca4, ca5⟩, fa, sa⟩ := Oa
  have fa := fun o => fa o
  have sxa : w.heap.size < wc.heap.size + 1 := by omega
  have sya : w.heap.size < wc.heap.size + 1 + 1 := by omega
  have Ob := Qb
  obtain ⟨⟨cb0, cb1, cb2, cb3, cb4, cb5⟩, fb, sb⟩ := Ob
  have fb := fun o => fb o
  have sxb : w.heap.size + 1 < wc.heap.size + 1 := by omega
  have syb : w.heap.size + 1 < wc.heap.size + 1 + 1 := by omega
  go_upto_region 7 with fail
  go_cut [7] from 25 to 31 (fun s7 wx => s7 = .int .i64 (cm (n * 10 ^ i) (m * 10 ^ j)) ∧ Mo w wx ∧ AtD wx w.heap.size false n s)
  case first =>
   go_region_held3 (fun w' => w'.cell? ⟨w.heap.size, 0, none⟩ = some (.bool false) ∧ w'.cell? ⟨w.heap.size, 1, none⟩ = some (.int .u64 (l0 n)) ∧ w'.cell? ⟨w.heap.size, 2, none⟩ = some (.int .u64 (l1 n)) ∧ w'.cell? ⟨w.heap.size, 3, none⟩ = some (.int .u64 (l2 n)) ∧ w'.cell? ⟨w.heap.size, 4, none⟩ = some (.int .u64 (l3 n)) ∧ w'.cell? ⟨w.heap.size, 5, none⟩ = some (.int .i64 s) ∧ w'.cell? ⟨w.heap.size + 1, 0, none⟩ = some (.bool c) ∧ w'.cell? ⟨w.heap.size + 1, 1, none⟩ = some (.int .u64 (l0 m)) ∧ w'.cell? ⟨w.heap.size + 1, 2, none⟩ = some (.int .u64 (l1 m)) ∧ w'.cell? ⟨w.heap.size + 1, 3, none⟩ = some (.int .u64 (l2 m)) ∧ w'.cell? ⟨w.heap.size + 1, 4, none⟩ = some (.int .u64 (l3 m)) ∧ w'.cell? ⟨w.heap.size + 1, 5, none⟩ = some (.int .i64 t)) (simp [go_sem, *])
    (first | (go_at_call 88; refine (cmpDouble_x _ _ _ bX.1 bX.2 bY.1 bY.2).mono ?_; rintro e w9 ⟨rfl, hm9⟩; have m9 : Mo w8 w9 := Mo.trans (by repeat (first | with_reducible exact Mo.refl _ | with_reducible apply Mo.drew | with_reducible apply Mo.alloc)) hm9; have m10 := (m7.trans m8).trans m9; obtain ⟨⟨i0, i1, i2, i3, i4, i5⟩, _, is⟩ := Qa.mo m10; obtain ⟨⟨j0, j1, j2, j3, j4, j5⟩, _, js⟩ := Qb.mo m10) | (go_at_call 85; have m77 := m7; refine (lift_x _ _ _ _ j _ hm0 hm HJ.out (by omega)).mono ?_; rintro e w8 ⟨rfl, hm8⟩; have m8 : Mo w7 w8 := Mo.trans (by repeat (first | with_reducible exact Mo.refl _ | with_reducible apply Mo.drew | with_reducible apply Mo.alloc)) hm8; obtain ⟨⟨g0, g1, g2, g3, g4, g5⟩, _, gs⟩ := Qa.mo (m7.trans m8); obtain ⟨⟨k0, k1, k2, k3, k4, k5⟩, _, ks⟩ := Qb.mo (m7.trans m8)) | (go_at_call 85; refine (lift_x _ _ _ _ i _ hn0 hn HI.out (by omega)).mono ?_; rintro e w7 ⟨rfl, hm7⟩; have m7 : Mo wc w7 := Mo.trans (by repeat (first | with_reducible exact Mo.refl _ | with_reducible apply Mo.drew | with_reducible apply Mo.alloc)) hm7; obtain ⟨⟨e0, e1, e2, e3, e4, e5⟩, _, es⟩ := Qa.mo m7; obtain ⟨⟨f0, f1, f2, f3, f4, f5⟩, _, fs⟩ := Qb.mo m7))
   all_goals
    go_wp2
    go_meet
    case rel => exact ⟨rfl, M.trans m10, Qa.mo m10⟩
  case rest =>
   clear ca0 ca1 ca2 ca3 ca4 ca5 fa sa sxa sya cb0 cb1 cb2 cb3 cb4 cb5 fb sb sxb syb Qa Qb M
   obtain ⟨rfl, M, Qa⟩ := hcut
   have Oa := Qa
   obtain ⟨⟨ca0, ca1, ca2, ca3, ca4, ca5⟩, fa, sa⟩ := Oa
   have fa := fun o => fa o
   have sxa : w.heap.size < wc.heap.size + 1 := by omega
   have sya : w.heap.size < wc.heap.size + 1 + 1 := by omega
   go_wp2
   go_ret
   exact ⟨rfl, M⟩
set_option maxHeartbeats 4000000 in
theorem dcmp_neg (b c : Bool) (n m s t : Int) (w : World) (hn0 : 0 ≤ n) (hn : n < MM) (hm0 : 0 ≤ m) (hm : m < MM) (h1 : ck b n s = 0) (h2 : ck c m t = 0) (S : Int) (i j : Nat) (hS : max s t = S) (hi : S - s = (i : Int)) (hj : S - t = (j : Int)) (hi7 : i ≤ 18) (hj7 : j ≤ 18) (hb : b = true) (ho : cm (sg b n) (sg c m) = 0) :
  Calls Tryz.prog 63 #[dc b n s, dc c m t] w fun e w' => e = .returned (.int .i64 (-(cm (n * 10 ^ i) (m * 10 ^ j)))) ∧ Mo w w' := by
 subst hb
 subst hS
 have bX := lifted_bd hn0 hn (show i ≤ 77 by omega)
 have bY := lifted_bd hm0 hm (show j ≤ 77 by omega)
 have HI : Hid _ := hi
 have HJ : Hid _ := hj
 clear hi hj
 have wn : IntKind.i64.wrap (-(cm (n * 10 ^ i) (m * 10 ^ j))) = -(cm (n * 10 ^ i) (m * 10 ^ j)) := by unfold cm; split <;> (try split) <;> decide
 have hO : (cm (sg true n) (sg c m) == 0) = true := by simp [ho]
 have hO2 : (cm (sg true n) (sg c m) != 0) = false := by simp [ho]
 clear ho
 go_enter Tryz.func63, Tryz.ntmps63
 go_wp2_with fail
 refine (both_ok true n s c m t _ hn0 hn hm0 hm h1 h2).mono ?_
 rintro e w1 ⟨rfl, hm1⟩
 have mz : Mo w w1 := Mo.trans (by repeat (first | with_reducible exact Mo.refl _ | with_reducible apply Mo.drew | with_reducible apply Mo.alloc)) hm1
 have M := mz
 have Qa : AtD w1 (w.heap.size) true n s := AtD.mo ⟨by simp [go_sem], fun o => by simp [go_sem], by simp <;> omega⟩ hm1
 have Qb : AtD w1 (w.heap.size + 1) c m t := AtD.mo ⟨by simp [go_sem], fun o => by simp [go_sem], by simp <;> omega⟩ hm1
 clear hm1 mz
 have Oa := Qa
 obtain ⟨⟨ca0, ca1, ca2, ca3, ca4, ca5⟩, fa, sa⟩ := Oa
 have fa := fun o => fa o
 have sxa : w.heap.size < w1.heap.size + 1 := by omega
 have sya : w.heap.size < w1.heap.size + 1 + 1 := by omega
 have Ob := Qb
 obtain ⟨⟨cb0, cb1, cb2, cb3, cb4, cb5⟩, fb, sb⟩ := Ob
 have fb := fun o => fb o
 have sxb : w.heap.size + 1 < w1.heap.size + 1 := by omega
 have syb : w.heap.size + 1 < w1.heap.size + 1 + 1 := by omega
 go_upto_region 3 with fail
 go_cut [5] from 12 to 16 (fun s5 wx => s5 = .int .i64 (cm (sg true n) (sg c m)) ∧ Mo w wx ∧ AtD wx w.heap.size true n s ∧ AtD wx (w.heap.size + 1) c m t)
 case first =>
  go_region_held3 (fun w' => w'.cell? ⟨w.heap.size, 0, none⟩ = some (.bool true) ∧ w'.cell? ⟨w.heap.size, 1, none⟩ = some (.int .u64 (l0 n)) ∧ w'.cell? ⟨w.heap.size, 2, none⟩ = some (.int .u64 (l1 n)) ∧ w'.cell? ⟨w.heap.size, 3, none⟩ = some (.int .u64 (l2 n)) ∧ w'.cell? ⟨w.heap.size, 4, none⟩ = some (.int .u64 (l3 n)) ∧ w'.cell? ⟨w.heap.size, 5, none⟩ = some (.int .i64 s) ∧ w'.cell? ⟨w.heap.size + 1, 0, none⟩ = some (.bool c) ∧ w'.cell? ⟨w.heap.size + 1, 1, none⟩ = some (.int .u64 (l0 m)) ∧ w'.cell? ⟨w.heap.size + 1, 2, none⟩ = some (.int .u64 (l1 m)) ∧ w'.cell? ⟨w.heap.size + 1, 3, none⟩ = some (.int .u64 (l2 m)) ∧ w'.cell? ⟨w.heap.size + 1, 4, none⟩ = some (.int .u64 (l3 m)) ∧ w'.cell? ⟨w.heap.size + 1, 5, none⟩ = some (.int .i64 t)) (simp [go_sem, *])
   (first | (go_at_call 94; refine (compare_n _ _ _).mono ?_; rintro e w5 ⟨rfl, hm5⟩; have m5 : Mo w4 w5 := Mo.trans (by repeat (first | with_reducible exact Mo.refl _ | with_reducible apply Mo.drew | with_reducible apply Mo.alloc)) hm5; have m6 := (m3.trans m4).trans m5; obtain ⟨⟨i0, i1, i2, i3, i4, i5⟩, _, is⟩ := Qa.mo m6; obtain ⟨⟨j0, j1, j2, j3, j4, j5⟩, _, js⟩ := Qb.mo m6) | (go_at_call 95; have m33 := m3; refine (sign_n c m t _ hm0 hm).mono ?_; rintro e w4 ⟨rfl, hm4⟩; have m4 : Mo w3 w4 := Mo.trans (by repeat (first | with_reducible exact Mo.refl _ | with_reducible apply Mo.drew | with_reducible apply Mo.alloc)) hm4; obtain ⟨⟨g0, g1, g2, g3, g4, g5⟩, _, gs⟩ := Qa.mo (m3.trans m4); obtain ⟨⟨k0, k1, k2, k3, k4, k5⟩, _, ks⟩ := Qb.mo (m3.trans m4)) | (go_at_call 95; refine (sign_n true n s _ hn0 hn).mono ?_; rintro e w3 ⟨rfl, hm3⟩; have m3 : Mo w1 w3 := Mo.trans (by repeat (first | with_reducible exact Mo.refl _ | with_reducible apply Mo.drew | with_reducible apply Mo.alloc)) hm3; obtain ⟨⟨e0, e1, e2, e3, e4, e5⟩, _, es⟩ := Qa.mo m3; obtain ⟨⟨f0, f1, f2, f3, f4, f5⟩, _, fs⟩ := Qb.mo m3))
  all_goals
   go_wp2
   go_meet
   case rel => exact ⟨rfl, M.trans m6, Qa.mo m6, Qb.mo m6⟩
 case rest =>
  clear ca0 ca1 ca2 ca3 ca4 ca5 fa sa sxa sya cb0 cb1 cb2 cb3 cb4 cb5 fb sb sxb syb Qa Qb M
  obtain ⟨rfl, M, Qa, Qb⟩ := hcut
  have Oa := Qa
  obtain ⟨⟨ca0, ca1, ca2, ca3, ca4, ca5⟩, fa, sa⟩ := Oa
  have fa := fun o => fa o
  have sxa : w.heap.size < wc.heap.size + 1 := by omega
  have sya : w.heap.size < wc.heap.size + 1 + 1 := by omega
  have Ob := Qb
  obtain ⟨⟨cb0, cb1, cb2, cb3, cb4, cb5⟩, fb, sb⟩ := Ob
  have fb := fun o => fb o
  have sxb : w.heap.size + 1 < wc.heap.size + 1 := by omega
  have syb : w.heap.size + 1 < wc.heap.size + 1 + 1 := by omega
  go_upto_region 7 with fail
  go_cut [7] from 25 to 31 (fun s7 wx => s7 = .int .i64 (cm (n * 10 ^ i) (m * 10 ^ j)) ∧ Mo w wx ∧ AtD wx w.heap.size true n s)
  case first =>
   go_region_held3 (fun w' => w'.cell? ⟨w.heap.size, 0, none⟩ = some (.bool true) ∧ w'.cell? ⟨w.heap.size, 1, none⟩ = some (.int .u64 (l0 n)) ∧ w'.cell? ⟨w.heap.size, 2, none⟩ = some (.int .u64 (l1 n)) ∧ w'.cell? ⟨w.heap.size, 3, none⟩ = some (.int .u64 (l2 n)) ∧ w'.cell? ⟨w.heap.size, 4, none⟩ = some (.int .u64 (l3 n)) ∧ w'.cell? ⟨w.heap.size, 5, none⟩ = some (.int .i64 s) ∧ w'.cell? ⟨w.heap.size + 1, 0, none⟩ = some (.bool c) ∧ w'.cell? ⟨w.heap.size + 1, 1, none⟩ = some (.int .u64 (l0 m)) ∧ w'.cell? ⟨w.heap.size + 1, 2, none⟩ = some (.int .u64 (l1 m)) ∧ w'.cell? ⟨w.heap.size + 1, 3, none⟩ = some (.int .u64 (l2 m)) ∧ w'.cell? ⟨w.heap.size + 1, 4, none⟩ = some (.int .u64 (l3 m)) ∧ w'.cell? ⟨w.heap.size + 1, 5, none⟩ = some (.int .i64 t)) (simp [go_sem, *])
    (first | (go_at_call 88; refine (cmpDouble_x _ _ _ bX.1 bX.2 bY.1 bY.2).mono ?_; rintro e w9 ⟨rfl, hm9⟩; have m9 : Mo w8 w9 := Mo.trans (by repeat (first | with_reducible exact Mo.refl _ | with_reducible apply Mo.drew | with_reducible apply Mo.alloc)) hm9; have m10 := (m7.trans m8).trans m9; obtain ⟨⟨i0, i1, i2, i3, i4, i5⟩, _, is⟩ := Qa.mo m10; obtain ⟨⟨j0, j1, j2, j3, j4, j5⟩, _, js⟩ := Qb.mo m10) | (go_at_call 85; have m77 := m7; refine (lift_x _ _ _ _ j _ hm0 hm HJ.out (by omega)).mono ?_; rintro e w8 ⟨rfl, hm8⟩; have m8 : Mo w7 w8 := Mo.trans (by repeat (first | with_reducible exact Mo.refl _ | with_reducible apply Mo.drew | with_reducible apply Mo.alloc)) hm8; obtain ⟨⟨g0, g1, g2, g3, g4, g5⟩, _, gs⟩ := Qa.mo (m7.trans m8); obtain ⟨⟨k0, k1, k2, k3, k4, k5⟩, _, ks⟩ := Qb.mo (m7.trans m8)) | (go_at_call 85; refine (lift_x _ _ _ _ i _ hn0 hn HI.out (by omega)).mono ?_; rintro e w7 ⟨rfl, hm7⟩; have m7 : Mo wc w7 := Mo.trans (by repeat (first | with_reducible exact Mo.refl _ | with_reducible apply Mo.drew | with_reducible apply Mo.alloc)) hm7; obtain ⟨⟨e0, e1, e2, e3, e4, e5⟩, _, es⟩ := Qa.mo m7; obtain ⟨⟨f0, f1, f2, f3, f4, f5⟩, _, fs⟩ := Qb.mo m7))
   all_goals
    go_wp2
    go_meet
    case rel => exact ⟨rfl, M.trans m10, Qa.mo m10⟩
  case rest =>
   clear ca0 ca1 ca2 ca3 ca4 ca5 fa sa sxa sya cb0 cb1 cb2 cb3 cb4 cb5 fb sb sxb syb Qa Qb M
   obtain ⟨rfl, M, Qa⟩ := hcut
   have Oa := Qa
   obtain ⟨⟨ca0, ca1, ca2, ca3, ca4, ca5⟩, fa, sa⟩ := Oa
   have fa := fun o => fa o
   have sxa : w.heap.size < wc.heap.size + 1 := by omega
   have sya : w.heap.size < wc.heap.size + 1 + 1 := by omega
   go_wp2
   go_ret
   exact ⟨rfl, M⟩
end Go.Proofs.YtogomodbcjpfiaaGreatDoor


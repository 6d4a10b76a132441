/-
  A part of the proof.
-/
import Derived.Test.YtogomodbcjpfiaaGreatDoorKb3
import Derived.Test.YtogomodbcjpfiaaGreatDoorKa8
import Derived.Test.YtogomodbcjpfiaaGreatDoorKb2
import Derived.Test.YtogomodbcjpfiaaGreatDoorKa5
import Derived.Test.YtogomodbcjpfiaaGreatDoorKb1
import Derived.Test.YtogomodbcjpfiaaGreatDoorKa4
import Derived.Test.YtogomodbcjpfiaaGreatDoorKa1
import Derived.Test.YtogomodbcjpfiaaGreatDoorProg
import Derived.WalkKit
import Derived.WalkSpells
import Derived.Handy
import Derived.BigQuiet
import Derived.Deep.RegionHeld3
import Derived.Shelf.Small.Bits
import Derived.Shelf.Strconv.Itoa0
import Derived.Shelf.Bits.Mul64
import Derived.Deep.CutBlock
import Derived.Deep.CutRange
import Derived.Test.YtogomodbcjpfiaaGreatDoorKa7
import Derived.Test.YtogomodbcjpfiaaGreatDoorKa6
import Derived.ChangeKeysEq
import Derived.ScopeJumps
import Derived.WalkMore
import Derived.Laws.StructEq
import Derived.Test.YtogomodbcjpfiaaGreatDoorKa12
import Derived.Test.YtogomodbcjpfiaaGreatDoorKa9
import Derived.Deep.MidRow
import Derived.Test.YtogomodbcjpfiaaGreatDoorKb4
import Derived.Test.YtogomodbcjpfiaaGreatDoorKa14
import Derived.Test.YtogomodbcjpfiaaGreatDoorKa11
import Derived.Test.YtogomodbcjpfiaaGreatDoorKa3
import Derived.Test.YtogomodbcjpfiaaGreatDoorKa2
import Derived.RegionTactic
import Derived.BigCall
import Derived.Test.YtogomodbcjpfiaaGreatDoorKa10
import Derived.Test.YtogomodbcjpfiaaGreatDoorKa13
import Derived.Test.YtogomodbcjpfiaaGreatDoorKb5
import Derived.Test.YtogomodbcjpfiaaGreatDoorKa17
import Derived.Test.YtogomodbcjpfiaaGreatDoorKb6
import Derived.Test.YtogomodbcjpfiaaGreatDoorKa16
import Derived.Test.YtogomodbcjpfiaaGreatDoorKa15
import Derived.Shelf.Strings.Builder1
import Derived.Shelf.Strings.Builder2
import Derived.Shelf.Small.Wraps
import Derived.Shelf.Strings.BuilderF
import Derived.Shelf.Strings.BuilderK
import Derived.Shelf.Strings.Prefix
import Derived.Shelf.Strings.Repeat
import Derived.Lib.CutLaws
import Derived.Lib.IndexBytes
import Derived.Maps.OwnSet
import Derived.WalkArith
import Derived.StringKeys
import Derived.Test.YtogomodbcjpfiaaGreatDoorKa19
import Derived.Test.YtogomodbcjpfiaaGreatDoorKa18
import Derived.Test.YtogomodbcjpfiaaGreatDoorKb7
namespace Go.Proofs.YtogomodbcjpfiaaGreatDoor
open Go.RowKit
set_option maxHeartbeats 4000000 in
theorem rboth_ok (b : Bool) (n s : Int) (c : Bool) (m t : Int) (w : World) (hn0 : 0 ≤ n) (hn : n < MM) (hm0 : 0 ≤ m) (hm : m < MM) (h1 : ck b n s = 0) (h2 : ck c m t = 0) :
  Calls Tryz.prog 96 #[dc b n s, dc c m t] w fun e w' => e = .returned (.int .i64 0) ∧ Mo w w' := by
 go_enter Tryz.func96, Tryz.ntmps96
 go_wp2_with fail
 refine (rcheck_ok b n s _ hn0 hn h1).mono ?_
 rintro e w1 ⟨rfl, hm1⟩
 have mz : Mo w w1 := Mo.trans (by repeat (first | with_reducible exact Mo.refl _ | with_reducible apply Mo.drew | with_reducible apply Mo.alloc)) hm1
 have M := mz
 have Qa : AtD w1 (w.heap.size) b n s := AtD.mo ⟨by simp [go_sem], fun o => by simp [go_sem], by simp <;> omega⟩ hm1
 have Qb : AtD w1 (w.heap.size + 1) c m t := AtD.mo ⟨by simp [go_sem], fun o => by simp [go_sem], by simp <;> omega⟩ hm1
 clear hm1 mz
 have Oa := Qa
 obtain ⟨⟨ca0, ca1, ca2, ca3, ca4, ca5⟩, fa, sa⟩ := Oa
 have fa := fun o => fa o
 have sxa : w.heap.size < w1.heap.size + 1 := by omega
 have sya : w.heap.size < w1.heap.size + 1 + 1 := by omega
 have Ob := Qb
 obtain ⟨⟨cb0, cb1, cb2, cb3, cb4, cb5⟩, fb, sb⟩ := Ob
 have fb := fun o => fb o
 have sxb : w.heap.size + 1 < w1.heap.size + 1 := by omega
 have syb : w.heap.size + 1 < w1.heap.size + 1 + 1 := by omega
 go_wp2_with fail
 refine (rcheck_ok c m t _ hm0 hm h2).mono ?_
 rintro e w2 ⟨rfl, hm2⟩
 have mz : Mo w1 w2 := Mo.trans (by repeat (first | with_reducible exact Mo.refl _ | with_reducible apply Mo.drew | with_reducible apply Mo.alloc)) hm2
 clear ca0 ca1 ca2 ca3 ca4 ca5 fa sa sxa sya cb0 cb1 cb2 cb3 cb4 cb5 fb sb sxb syb
 have Qa := Qa.mo mz
 have Qb := Qb.mo mz
 have M := M.trans mz
 clear hm2 mz
 have Oa := Qa
 obtain ⟨⟨ca0, ca1, ca2, ca3, ca4, ca5⟩, fa, sa⟩ := Oa
 have fa := fun o => fa o
 have sxa : w.heap.size < w2.heap.size + 1 := by omega
 have sya : w.heap.size < w2.heap.size + 1 + 1 := by omega
 have Ob := Qb
 obtain ⟨⟨cb0, cb1, cb2, cb3, cb4, cb5⟩, fb, sb⟩ := Ob
 have fb := fun o => fb o
 have sxb : w.heap.size + 1 < w2.heap.size + 1 := by omega
 have syb : w.heap.size + 1 < w2.heap.size + 1 + 1 := by omega
 go_wp2
 go_ret
 exact ⟨rfl, M⟩
end Go.Proofs.YtogomodbcjpfiaaGreatDoor

namespace Go.Proofs.YtogomodbcjpfiaaGreatDoor
open Go.RowKit
theorem rcmp_m (A B : Int) (w : World) : Calls Tryz.prog 122 #[nv A, nv B] w fun e w' => e = .returned (.int .i64 (cm (A % MM) (B % MM))) ∧ Mo w w' := by
 have h := cmp16_any (l0 A) (l1 A) (l2 A) (l3 A) (l0 B) (l1 B) (l2 B) (l3 B) w (u4_lb A) (u4_lb B)
 rw [vl_nv, vl_nv] at h
 exact h
set_option maxHeartbeats 4000000 in
theorem rcmpw_n (X Y : Int) (w : World) (hX0 : 0 ≤ X) (hX : X < MM * MM) (hY0 : 0 ≤ Y) (hY : Y < MM * MM) :
  Calls Tryz.prog 99 #[dw X, dw Y] w fun e w' => e = .returned (.int .i64 (cm X Y)) ∧ Mo w w' := by
 have p : (0 : Int) < MM := by decide
 have a1 : X / MM % MM = X / MM := Int.emod_eq_of_lt (Int.ediv_nonneg hX0 (by omega)) (Int.ediv_lt_of_lt_mul p hX)
 have b1 : Y / MM % MM = Y / MM := Int.emod_eq_of_lt (Int.ediv_nonneg hY0 (by omega)) (Int.ediv_lt_of_lt_mul p hY)
 have A1 : Hid _ := a1
 have B1 : Hid _ := b1
 have e : Hid _ := cm_wide (X := X) (Y := Y)
 clear a1 b1 p
 go_enter Tryz.func99, Tryz.ntmps99
 go_wp2_with fail
 refine (rcmp_m (X / MM) (Y / MM) _).mono ?_
 rintro e w1 ⟨rfl, hm1⟩
 rw [A1.out, B1.out]
 have mz : Mo w w1 := Mo.trans (by repeat (first | with_reducible exact Mo.refl _ | with_reducible apply Mo.drew | with_reducible apply Mo.alloc)) hm1
 have M := mz
 have Qx : AtW w1 (w.heap.size) X := AtW.mo ⟨by simp [go_sem], fun o => by simp [go_sem], by simp <;> omega⟩ hm1
 have Qy : AtW w1 (w.heap.size + 1) Y := AtW.mo ⟨by simp [go_sem], fun o => by simp [go_sem], by simp <;> omega⟩ hm1
 clear hm1 mz
 have Ox := Qx
 obtain ⟨⟨cx0, cx1, cx2, cx3, cx4, cx5, cx6, cx7⟩, fx, sx⟩ := Ox
 have fx := fun o => fx o
 have sxx : w.heap.size < w1.heap.size + 1 := by omega
 have syx : w.heap.size < w1.heap.size + 1 + 1 := by omega
 have Oy := Qy
 obtain ⟨⟨cy0, cy1, cy2, cy3, cy4, cy5, cy6, cy7⟩, fy, sy⟩ := Oy
 have fy := fun o => fy o
 have sxy : w.heap.size + 1 < w1.heap.size + 1 := by omega
 have syy : w.heap.size + 1 < w1.heap.size + 1 + 1 := by omega
 by_cases hz : cm (X / MM) (Y / MM) = 0
 ·have hb : (cm (X / MM) (Y / MM) == 0) = true := by rw [hz]; rfl
  have hb2 : (cm (X / MM) (Y / MM) != 0) = false := by simp [hz]
  have e2 := e.out
  rw [if_pos hz] at e2
  have E2 : Hid _ := e2
  clear e2 hz
  go_wp2_with fail
  refine (rcmp_m X Y _).mono ?_
  rintro e w2 ⟨rfl, hm2⟩
  have mz : Mo w1 w2 := Mo.trans (by repeat (first | with_reducible exact Mo.refl _ | with_reducible apply Mo.drew | with_reducible apply Mo.alloc)) hm2
  have zw1x := sx
  have zw1y := sy
  clear cx0 cx1 cx2 cx3 cx4 cx5 cx6 cx7 fx sx sxx syx cy0 cy1 cy2 cy3 cy4 cy5 cy6 cy7 fy sy sxy syy
  have Qx := Qx.mo mz
  have Qy := Qy.mo mz
  have M := M.trans mz
  clear hm2 mz
  have Ox := Qx
  obtain ⟨⟨cx0, cx1, cx2, cx3, cx4, cx5, cx6, cx7⟩, fx, sx⟩ := Ox
  have fx := fun o => fx o
  have sxx : w.heap.size < w2.heap.size + 1 := by omega
  have syx : w.heap.size < w2.heap.size + 1 + 1 := by omega
  have Oy := Qy
  obtain ⟨⟨cy0, cy1, cy2, cy3, cy4, cy5, cy6, cy7⟩, fy, sy⟩ := Oy
  have fy := fun o => fy o
  have sxy : w.heap.size + 1 < w2.heap.size + 1 := by omega
  have syy : w.heap.size + 1 < w2.heap.size + 1 + 1 := by omega
  go_wp2
  go_ret
  exact ⟨by rw [E2.out]; rfl, M⟩
 ·have hb : (cm (X / MM) (Y / MM) == 0) = false := by simp [hz]
  have hb2 : (cm (X / MM) (Y / MM) != 0) = true := by simp [hz]
  have e2 := e.out
  rw [if_neg hz] at e2
  have E2 : Hid _ := e2
  clear e2 hz
  go_wp2
  go_ret
  exact ⟨by rw [E2.out]; rfl, M⟩
end Go.Proofs.YtogomodbcjpfiaaGreatDoor

namespace Go.Proofs.YtogomodbcjpfiaaGreatDoor
open Go.RowKit
theorem rsub_m (A B : Int) (w : World) : Calls Tryz.prog 123 #[nv A, nv B] w fun e w' => e = .returned (.tuple #[nv (A % MM - B % MM), .bool (un (A % MM - B % MM))]) ∧ Mo w w' := by
 have h := rsub_n (A % MM) (B % MM) w (Int.emod_nonneg _ (by decide)) (Int.emod_lt_of_pos _ (by decide)) (Int.emod_nonneg _ (by decide)) (Int.emod_lt_of_pos _ (by decide))
 rw [nv_mod A, nv_mod B] at h
 exact h
set_option maxHeartbeats 4000000 in
theorem minus_n (X Y : Int) (w : World) (hX0 : 0 ≤ X) (hX : X < MM * MM) (hY0 : 0 ≤ Y) (hY : Y < MM * MM) :
  Calls Tryz.prog 100 #[dw X, dw Y] w fun e w' => e = .returned (dw (X - Y)) ∧ Mo w w' := by
 obtain ⟨f1, f2⟩ := ddif hX0 hX hY0 hY
 have F1 : Hid _ := f1
 clear f1
 go_enter Tryz.func100, Tryz.ntmps100
 go_wp2_with fail
 refine (rsub_m X Y _).mono ?_
 rintro e w1 ⟨rfl, hm1⟩
 have m : Mo w w1 := Mo.trans (by repeat (first | with_reducible exact Mo.refl _ | with_reducible apply Mo.drew | with_reducible apply Mo.alloc)) hm1
 have M := m
 have Qx : AtW w1 (w.heap.size) X := AtW.mo ⟨by simp [go_sem], fun o => by simp [go_sem], by simp <;> omega⟩ hm1
 have Qy : AtW w1 (w.heap.size + 1) Y := AtW.mo ⟨by simp [go_sem], fun o => by simp [go_sem], by simp <;> omega⟩ hm1
 have Qr : AtW w1 (w.heap.size + 1 + 1) 0 := AtW.mo ⟨by simp [go_sem, zl0, zl1, zl2, zl3], fun o => by simp [go_sem], by simp <;> omega⟩ hm1
 clear hm1 m
 have Ox := Qx
 obtain ⟨⟨cx0, cx1, cx2, cx3, cx4, cx5, cx6, cx7⟩, fx, sx⟩ := Ox
 have fx := fun o => fx o
 have sxx : w.heap.size < w1.heap.size + 1 := by omega
 have syx : w.heap.size < w1.heap.size + 1 + 1 := by omega
 have Oy := Qy
 obtain ⟨⟨cy0, cy1, cy2, cy3, cy4, cy5, cy6, cy7⟩, fy, sy⟩ := Oy
 have fy := fun o => fy o
 have sxy : w.heap.size + 1 < w1.heap.size + 1 := by omega
 have syy : w.heap.size + 1 < w1.heap.size + 1 + 1 := by omega
 have Or := Qr
 obtain ⟨⟨cr0, cr1, cr2, cr3, cr4, cr5, cr6, cr7⟩, fr, sr⟩ := Or
 have fr := fun o => fr o
 have sxr : w.heap.size + 1 + 1 < w1.heap.size + 1 := by omega
 have syr : w.heap.size + 1 + 1 < w1.heap.size + 1 + 1 := by omega
 obtain ⟨lo, hlo⟩ : ∃ lo, lo = X % MM - Y % MM := ⟨_, rfl⟩
 rw [← hlo] at f2 F1 ⊢
 have HL : Hid _ := hlo
 clear hlo
 go_wp2_with fail
 refine (rsub_m (X / MM) (Y / MM) _).mono ?_
 rintro e w2 ⟨rfl, hm2⟩
 have m : Mo w1 w2 := Mo.trans (by repeat (first | with_reducible exact Mo.refl _ | with_reducible apply Mo.drew | with_reducible apply Mo.alloc)) hm2
 clear cx0 cx1 cx2 cx3 cx4 cx5 cx6 cx7 fx sx sxx syx cy0 cy1 cy2 cy3 cy4 cy5 cy6 cy7 fy sy sxy syy cr0 cr1 cr2 cr3 cr4 cr5 cr6 cr7 fr sr sxr syr
 have Qx := Qx.mo m
 have Qy := Qy.mo m
 have Qr := Qr.mo m
 have M := M.trans m
 have Ql : AtN w2 (w1.heap.size) lo := AtN.mo ⟨by simp [At4, go_sem], fun o => by simp [go_sem], by simp <;> omega⟩ hm2
 clear hm2 m
 have Ox := Qx
 obtain ⟨⟨cx0, cx1, cx2, cx3, cx4, cx5, cx6, cx7⟩, fx, sx⟩ := Ox
 have fx := fun o => fx o
 have sxx : w.heap.size < w2.heap.size + 1 := by omega
 have syx : w.heap.size < w2.heap.size + 1 + 1 := by omega
 have Oy := Qy
 obtain ⟨⟨cy0, cy1, cy2, cy3, cy4, cy5, cy6, cy7⟩, fy, sy⟩ := Oy
 have fy := fun o => fy o
 have sxy : w.heap.size + 1 < w2.heap.size + 1 := by omega
 have syy : w.heap.size + 1 < w2.heap.size + 1 + 1 := by omega
 have Or := Qr
 obtain ⟨⟨cr0, cr1, cr2, cr3, cr4, cr5, cr6, cr7⟩, fr, sr⟩ := Or
 have fr := fun o => fr o
 have sxr : w.heap.size + 1 + 1 < w2.heap.size + 1 := by omega
 have syr : w.heap.size + 1 + 1 < w2.heap.size + 1 + 1 := by omega
 have Ol := Ql
 obtain ⟨⟨cl0, cl1, cl2, cl3⟩, fl, sl⟩ := Ol
 have fl := fun o => fl o
 have sxl : w1.heap.size < w2.heap.size + 1 := by omega
 have syl : w1.heap.size < w2.heap.size + 1 + 1 := by omega
 obtain ⟨hi, hhi⟩ : ∃ hi, hi = X / MM % MM - Y / MM % MM := ⟨_, rfl⟩
 rw [← hhi] at f2 ⊢
 have HH : Hid _ := hhi
 clear hhi
 rcases f2 with ⟨g1, g2⟩ | ⟨g1, g2⟩
 ·have G2 : Hid _ := g2
  clear g2
  have a : Mo w2 ((w2).alloc (.cells #[.int .u64 (l0 (hi)), .int .u64 (l1 (hi)), .int .u64 (l2 (hi)), .int .u64 (l3 (hi))] 24)) := by repeat (first | with_reducible exact Mo.refl _ | with_reducible apply Mo.alloc)
  have zW0x := sx
  have zW0y := sy
  have zW0r := sr
  have zW0l := sl
  clear cx0 cx1 cx2 cx3 cx4 cx5 cx6 cx7 fx sx sxx syx cy0 cy1 cy2 cy3 cy4 cy5 cy6 cy7 fy sy sxy syy cr0 cr1 cr2 cr3 cr4 cr5 cr6 cr7 fr sr sxr syr cl0 cl1 cl2 cl3 fl sl sxl syl
  have Qx := Qx.mo a
  have Qy := Qy.mo a
  have Qr := Qr.mo a
  have Ql := Ql.mo a
  have M := M.trans a
  have Qh : AtN ((w2).alloc (.cells #[.int .u64 (l0 (hi)), .int .u64 (l1 (hi)), .int .u64 (l2 (hi)), .int .u64 (l3 (hi))] 24)) (w2.heap.size) hi := ⟨by simp [At4, go_sem], fun o => by simp [go_sem], by simp <;> omega⟩
  clear a
  go_upto_region 5 with fail
  generalize ((w2).alloc (.cells #[.int .u64 (l0 (hi)), .int .u64 (l1 (hi)), .int .u64 (l2 (hi)), .int .u64 (l3 (hi))] 24)) = W0 at *
  have Ox := Qx
  obtain ⟨⟨cx0, cx1, cx2, cx3, cx4, cx5, cx6, cx7⟩, fx, sx⟩ := Ox
  have fx := fun o => fx o
  have sxx : w.heap.size < W0.heap.size + 1 := by omega
  have syx : w.heap.size < W0.heap.size + 1 + 1 := by omega
  have Oy := Qy
  obtain ⟨⟨cy0, cy1, cy2, cy3, cy4, cy5, cy6, cy7⟩, fy, sy⟩ := Oy
  have fy := fun o => fy o
  have sxy : w.heap.size + 1 < W0.heap.size + 1 := by omega
  have syy : w.heap.size + 1 < W0.heap.size + 1 + 1 := by omega
  have Or := Qr
  obtain ⟨⟨cr0, cr1, cr2, cr3, cr4, cr5, cr6, cr7⟩, fr, sr⟩ := Or
  have fr := fun o => fr o
  have sxr : w.heap.size + 1 + 1 < W0.heap.size + 1 := by omega
  have syr : w.heap.size + 1 + 1 < W0.heap.size + 1 + 1 := by omega
  have Ol := Ql
  obtain ⟨⟨cl0, cl1, cl2, cl3⟩, fl, sl⟩ := Ol
  have fl := fun o => fl o
  have sxl : w1.heap.size < W0.heap.size + 1 := by omega
  have syl : w1.heap.size < W0.heap.size + 1 + 1 := by omega
  have Oh := Qh
  obtain ⟨⟨ch0, ch1, ch2, ch3⟩, fh, sh⟩ := Oh
  have fh := fun o => fh o
  have sxh : w2.heap.size < W0.heap.size + 1 := by omega
  have syh : w2.heap.size < W0.heap.size + 1 + 1 := by omega
  go_wp2
  refine bodyPost_ret (v := .agg #[.int .u64 (l0 (hi)), .int .u64 (l1 (hi)), .int .u64 (l2 (hi)), .int .u64 (l3 (hi)), .int .u64 (l0 (lo)), .int .u64 (l1 (lo)), .int .u64 (l2 (lo)), .int .u64 (l3 (lo))]) (by simp [results, Tryz.results100, go_sem, *]) rfl ?_
  refine ⟨by rw [dw_of80 G2.out F1.out], ?_⟩
  repeat (first | with_reducible exact M | with_reducible exact Mo.refl _ | with_reducible apply Mo.drew | with_reducible apply Mo.drewN | with_reducible apply Mo.alloc | with_reducible refine Mo.setCell ?_ (by simp <;> omega) _)
 ·have G2 : Hid _ := g2
  clear g2
  have a : Mo w2 ((w2).alloc (.cells #[.int .u64 (l0 (hi)), .int .u64 (l1 (hi)), .int .u64 (l2 (hi)), .int .u64 (l3 (hi))] 24)) := by repeat (first | with_reducible exact Mo.refl _ | with_reducible apply Mo.alloc)
  have zW0x := sx
  have zW0y := sy
  have zW0r := sr
  have zW0l := sl
  clear cx0 cx1 cx2 cx3 cx4 cx5 cx6 cx7 fx sx sxx syx cy0 cy1 cy2 cy3 cy4 cy5 cy6 cy7 fy sy sxy syy cr0 cr1 cr2 cr3 cr4 cr5 cr6 cr7 fr sr sxr syr cl0 cl1 cl2 cl3 fl sl sxl syl
  have Qx := Qx.mo a
  have Qy := Qy.mo a
  have Qr := Qr.mo a
  have Ql := Ql.mo a
  have M := M.trans a
  have Qh : AtN ((w2).alloc (.cells #[.int .u64 (l0 (hi)), .int .u64 (l1 (hi)), .int .u64 (l2 (hi)), .int .u64 (l3 (hi))] 24)) (w2.heap.size) hi := ⟨by simp [At4, go_sem], fun o => by simp [go_sem], by simp <;> omega⟩
  clear a
  go_upto_region 4 with fail
  generalize ((w2).alloc (.cells #[.int .u64 (l0 (hi)), .int .u64 (l1 (hi)), .int .u64 (l2 (hi)), .int .u64 (l3 (hi))] 24)) = W0 at *
  have Ox := Qx
  obtain ⟨⟨cx0, cx1, cx2, cx3, cx4, cx5, cx6, cx7⟩, fx, sx⟩ := Ox
  have fx := fun o => fx o
  have sxx : w.heap.size < W0.heap.size + 1 := by omega
  have syx : w.heap.size < W0.heap.size + 1 + 1 := by omega
  have Oy := Qy
  obtain ⟨⟨cy0, cy1, cy2, cy3, cy4, cy5, cy6, cy7⟩, fy, sy⟩ := Oy
  have fy := fun o => fy o
  have sxy : w.heap.size + 1 < W0.heap.size + 1 := by omega
  have syy : w.heap.size + 1 < W0.heap.size + 1 + 1 := by omega
  have Or := Qr
  obtain ⟨⟨cr0, cr1, cr2, cr3, cr4, cr5, cr6, cr7⟩, fr, sr⟩ := Or
  have fr := fun o => fr o
  have sxr : w.heap.size + 1 + 1 < W0.heap.size + 1 := by omega
  have syr : w.heap.size + 1 + 1 < W0.heap.size + 1 + 1 := by omega
  have Ol := Ql
  obtain ⟨⟨cl0, cl1, cl2, cl3⟩, fl, sl⟩ := Ol
  have fl := fun o => fl o
  have sxl : w1.heap.size < W0.heap.size + 1 := by omega
  have syl : w1.heap.size < W0.heap.size + 1 + 1 := by omega
  have Oh := Qh
  obtain ⟨⟨ch0, ch1, ch2, ch3⟩, fh, sh⟩ := Oh
  have fh := fun o => fh o
  have sxh : w2.heap.size < W0.heap.size + 1 := by omega
  have syh : w2.heap.size < W0.heap.size + 1 + 1 := by omega
  go_cut [] from 26 to 31 (fun wx => Mo w wx ∧ AtN wx w2.heap.size (hi % MM - 1 % MM) ∧ AtN wx w1.heap.size lo ∧ AtW wx (w.heap.size + 1 + 1) 0)
  case first =>
   go_region_with
    (first | (go_at_call 107; refine (from34_any 1 _ ⟨by decide, by decide⟩).mono ?_; rintro e w5 ⟨rfl, hm5⟩; have m5 : Mo W0 w5 := Mo.trans (by repeat (first | with_reducible exact Mo.refl _ | with_reducible apply Mo.drew | with_reducible apply Mo.alloc)) hm5; obtain ⟨⟨x0, x1, x2, x3⟩, _, xs⟩ := Qh.mo m5) | (go_at_call 123; refine (rsub_m hi 1 _).mono ?_; rintro e w6 ⟨rfl, hm6⟩; have m6 : Mo w5 w6 := Mo.trans (by repeat (first | with_reducible exact Mo.refl _ | with_reducible apply Mo.drew | with_reducible apply Mo.alloc)) hm6; have m7 := m5.trans m6; obtain ⟨⟨z0, z1, z2, z3⟩, zf, zs⟩ := Qh.mo m7; have zf := fun o => zf o))
   all_goals
    go_wp2
    go_meet
    case rel => exact ⟨(M.trans m7).st4 (by omega) _, (Qh.mo m7).same _, (Ql.mo m7).other (by omega) _, ((((Qr.mo m7).set180 (by omega) _ _).set180 (by omega) _ _).set180 (by omega) _ _).set180 (by omega) _ _⟩
  case rest =>
   clear cx0 cx1 cx2 cx3 cx4 cx5 cx6 cx7 fx sx sxx syx cy0 cy1 cy2 cy3 cy4 cy5 cy6 cy7 fy sy sxy syy cr0 cr1 cr2 cr3 cr4 cr5 cr6 cr7 fr sr sxr syr cl0 cl1 cl2 cl3 fl sl sxl syl ch0 ch1 ch2 ch3 fh sh sxh syh Qx Qy Qr Ql Qh M
   obtain ⟨M, Qh, Ql, Qr⟩ := hcut
   obtain ⟨⟨a0, a1, a2, a3⟩, _, sa⟩ := Qh
   obtain ⟨⟨b0, b1, b2, b3⟩, _, sb⟩ := Ql
   obtain ⟨⟨c0, c1, c2, c3, c4, c5, c6, c7⟩, fc, sc⟩ := Qr
   have fc := fun o => fc o
   go_wp2
   refine bodyPost_ret (v := .agg #[.int .u64 (l0 (hi % MM - 1 % MM)), .int .u64 (l1 (hi % MM - 1 % MM)), .int .u64 (l2 (hi % MM - 1 % MM)), .int .u64 (l3 (hi % MM - 1 % MM)), .int .u64 (l0 (lo)), .int .u64 (l1 (lo)), .int .u64 (l2 (lo)), .int .u64 (l3 (lo))]) (by simp [results, Tryz.results100, go_sem, *]) rfl ?_
   refine ⟨by rw [dw_of80 G2.out F1.out], ?_⟩
   repeat (first | with_reducible exact M | with_reducible exact Mo.refl _ | with_reducible apply Mo.drew | with_reducible apply Mo.drewN | with_reducible apply Mo.alloc | with_reducible refine Mo.setCell ?_ (by simp <;> omega) _)
end Go.Proofs.YtogomodbcjpfiaaGreatDoor

namespace Go.Proofs.YtogomodbcjpfiaaGreatDoor
open Go.RowKit
theorem add3_run {a b c : Int} (h : a + b = c) (h0 : 0 ≤ c) (h1 : c ≤ 100) (x y : Operand) (w : World) : (do eqGuard .add 3 x y (.int .i64 a) (.int .i64 b); binOp .add 3 (.int .i64 a) (.int .i64 b)).run Tryz.prog w = .ok (.int .i64 c) w := by
 have e : (do eqGuard .add 3 x y (.int .i64 a) (.int .i64 b); binOp .add 3 (.int .i64 a) (.int .i64 b)).run Tryz.prog w = .ok (.int .i64 (IntKind.i64.wrap (a + b))) w := by kernel_rfl
 have hw : IntKind.i64.wrap (a + b) = c := by rw [IntKind.wrap_i64]; omega
 rw [e, hw]
theorem neb_run {a b r : Bool} (h : (a != b) = r) (x y : Operand) (w : World) : (do eqGuard .neq 4 x y (.bool a) (.bool b); binOp .neq 4 (.bool a) (.bool b)).run Tryz.prog w = .ok (.bool r) w := by
 subst h; cases a <;> cases b <;> kernel_rfl
theorem rat_z (b : Bool) (X s v : Int) (w : World) (hX : X = ab v) (hX2 : X < MM * MM) (hb : X ≠ 0 → b = decide (v < 0)) :
  Calls Tryz.prog 71 #[.bool b, dw X, .int .i64 s] w fun e w' => e = .returned (fz v s) ∧ Mo w w' := by
 have h0 := ab_nn v
 unfold fz
 subst hX
 by_cases h : ab v < MM
 ·rw [if_pos h]
  have e : (b && !decide (ab v = 0)) = decide (v < 0) := by
   by_cases hz : ab v = 0
   ·rw [decide_eq_true hz, decide_eq_false (p := v < 0) (by unfold ab at hz; split at hz <;> omega)]; simp
   ·rw [decide_eq_false hz, hb hz]; simp
  have hh := rat_yes b (ab v) s w h0 h
  rw [e] at hh
  exact hh
 ·rw [if_neg h]
  exact rat_no b (ab v) s w (by omega) hX2
theorem rneg_at (b : Bool) (n s : Int) (w : World) (hn0 : 0 ≤ n) (hn : n < MM) : Calls Tryz.prog 71 #[.bool (!b), .agg #[.int .u64 0, .int .u64 0, .int .u64 0, .int .u64 0, .int .u64 (l0 n), .int .u64 (l1 n), .int .u64 (l2 n), .int .u64 (l3 n)], .int .i64 s] w fun e w' => e = .returned (.tuple #[dc (!b && !decide (n = 0)) n s, .int .i64 0]) ∧ Mo w w' := by
 have h := rat_yes (!b) n s w hn0 hn
 have e : dw n = .agg #[.int .u64 0, .int .u64 0, .int .u64 0, .int .u64 0, .int .u64 (l0 n), .int .u64 (l1 n), .int .u64 (l2 n), .int .u64 (l3 n)] := by
  unfold dw; rw [Int.ediv_eq_zero_of_lt hn0 hn]; rfl
 rw [e] at h
 exact h
theorem rneg_ok (b : Bool) (n s : Int) (w : World) (hn0 : 0 ≤ n) (hn : n < MM) (h : ck b n s = 0) : Calls Tryz.prog 49 #[dc b n s] w fun e w' => e = .returned (.tuple #[dc (!b && !decide (n = 0)) n s, .int .i64 0]) ∧ Mo w w' := by
 refine w_enter 22 Tryz.func49 Tryz.ntmps49 rfl rfl ?_
 have M : Mo w w := Mo.refl _
 refine w_seq (w_reg ?_)
 refine wl_box 26 (.tmp 0) (dc b (n) (s)) ((dcr b (n) (s))) rfl rfl (fun _ => by kernel_rfl) rfl ?_
 intro k1 w1 hk hz hq Q1
 have N_k1 : w.heap.size ≤ k1 := by have := M.size; omega
 replace M := M.trans hq
 clear hk hz hq
 refine wl_alloc 26 #[.bool false, .int .u64 0, .int .u64 0, .int .u64 0, .int .u64 0, .int .i64 0] rfl (fun _ => by kernel_rfl) rfl ?_
 intro k2 w2 hk hz hq Q2
 have ne_k1_k2 : k1 ≠ k2 := by have := Q1.lt; omega
 have N_k2 : w.heap.size ≤ k2 := by have := M.size; omega
 replace Q1 := Q1.mo hq
 replace M := M.trans hq
 clear hk hz hq
 refine wl_m (.const (.int .i64 (0))) (.int .i64 (0)) ?_
 refine w_nil (xn_then (w_seq (w_seq (w_reg ?_))))
 refine wl_l 26 (.tmp 1) (pt k1 0) (dc b (n) (s)) (run_row Q1 26 0 6 (dcl b (n) (s)) rfl Tryz.underlying26 rfl sz40) ?_
 refine wl_call 42 [(.tmp 5)] _ [dc b (n) (s)] (.int .i64 (0)) rfl rfl (fun _ _ => by kernel_rfl) (rcheck_ok b n s _ hn0 hn h) rfl ?_
 intro w3 hq
 replace Q1 := Q1.mo hq
 replace Q2 := Q2.mo hq
 replace M := M.trans hq
 clear hq
 refine wl_m (.tmp 6) (.int .i64 (0)) ?_
 refine w_nil (xn_then (w_seq (w_reg ?_)))
 refine wl_m (.tmp 4) (.int .i64 (0)) ?_
 refine wl_b .neq 32 (.tmp 7) (.const (.int .i64 (0))) (.int .i64 (0)) (.int .i64 (0)) (.bool false) (by kernel_rfl) ?_
 refine w_nil (xn_then (w_condF rfl (w_skip (xn_then (w_seq (w_reg ?_))))))
 refine wl_f 26 0 (.tmp 1) (pt k1 0) (pt k1 0) ?_
 refine wl_l 4 (.tmp 11) (pt k1 0) (.bool b) (run_one Q1 4 0 rfl Tryz.underlying4 rfl) ?_
 refine wl_un (fun v => Op.unary .not v) (.tmp 12) (.bool b) (.bool (!b)) (fun _ => rfl) rfl (not4_run _ _) rfl ?_
 refine wl_f 26 1 (.tmp 1) (pt k1 0) (pt k1 1) ?_
 refine wl_l 24 (.tmp 14) (pt k1 1) (.agg #[.int .u64 (l0 (n)), .int .u64 (l1 (n)), .int .u64 (l2 (n)), .int .u64 (l3 (n))]) (run_row Q1 24 1 4 _ rfl Tryz.underlying24 rfl sz24) ?_
 refine wl_build 74 [(1, (.tmp 15))] [(1, .agg #[.int .u64 (l0 (n)), .int .u64 (l1 (n)), .int .u64 (l2 (n)), .int .u64 (l3 (n))])] (.agg #[.int .u64 0, .int .u64 0, .int .u64 0, .int .u64 0, .int .u64 (l0 (n)), .int .u64 (l1 (n)), .int .u64 (l2 (n)), .int .u64 (l3 (n))]) rfl rfl (by kernel_rfl) rfl ?_
 refine wl_f 26 2 (.tmp 1) (pt k1 0) (pt k1 5) ?_
 refine wl_l 3 (.tmp 17) (pt k1 5) (.int .i64 (s)) (run_one Q1 3 5 rfl Tryz.underlying3 rfl) ?_
 refine wl_call 71 [(.tmp 13), (.tmp 16), (.tmp 18)] _ [.bool (!b), .agg #[.int .u64 0, .int .u64 0, .int .u64 0, .int .u64 0, .int .u64 (l0 (n)), .int .u64 (l1 (n)), .int .u64 (l2 (n)), .int .u64 (l3 (n))], .int .i64 (s)] (.tuple #[dc (!b && !decide (n = 0)) (n) (s), .int .i64 (0)]) rfl rfl (fun _ _ => by kernel_rfl) (rneg_at b n s _ hn0 hn) rfl ?_
 intro w4 hq
 replace Q1 := Q1.mo hq
 replace Q2 := Q2.mo hq
 replace M := M.trans hq
 clear hq
 refine wl_un (fun v => Instr.extract v 0) (.tmp 19) (.tuple #[dc (!b && !decide (n = 0)) (n) (s), .int .i64 (0)]) (dc (!b && !decide (n = 0)) (n) (s)) (fun _ => rfl) rfl (by kernel_rfl) rfl ?_
 refine wl_un (fun v => Instr.extract v 1) (.tmp 19) (.tuple #[dc (!b && !decide (n = 0)) (n) (s), .int .i64 (0)]) (.int .i64 (0)) (fun _ => rfl) rfl (by kernel_rfl) rfl ?_
 refine wl_st 26 (.tmp 2) (.tmp 20) k2 0 (dcr (!b && !decide (n = 0)) (n) (s)) _ (dcl (!b && !decide (n = 0)) (n) (s)) Q2 rfl rfl rfl rfl rfl sz40 rfl rfl rfl ?_
 intro w5 hS Qn
 replace Q2 := Qn
 clear Qn
 replace Q1 := hS.other _ _ ne_k1_k2 Q1
 replace M := hS.mo _ N_k2 M
 clear hS
 refine wl_m (.tmp 21) (.int .i64 (0)) ?_
 refine w_nil (xn_then (w_ret ?_))
 exact w_ret2 _ _ (dc (!b && !decide (n = 0)) (n) (s)) (.int .i64 (0)) rfl ⟨k2, rfl, (run_row Q2 26 0 6 (dcl (!b && !decide (n = 0)) (n) (s)) rfl Tryz.underlying26 rfl sz40)⟩ rfl ⟨rfl, M⟩
theorem radd_same (bu bv : Bool) (n m s t S : Int) (i j : Nat) (d0 d1 d2 d3 d4 d5 : Value) (e : Int) (w : World) (hn0 : 0 ≤ n) (hn : n < MM) (hm0 : 0 ≤ m) (hm : m < MM) (h1 : ck bu n s = 0) (h2 : ck bv m t = 0) (hS : max s t = S) (hi : S - s = (i : Int)) (hj : S - t = (j : Int)) (hi7 : i ≤ 18) (hj7 : j ≤ 18) (hb : (bu == bv) = true)
  (hd : [d0, d1, d2, d3, d4, d5].all (·.oneCell') = true)
  (hfit : ∀ w, Calls Tryz.prog 71 #[.bool bu, dw (n * 10 ^ i + m * 10 ^ j), .int .i64 S] w fun e' w' => e' = .returned (.tuple #[.agg #[d0, d1, d2, d3, d4, d5], .int .i64 e]) ∧ Mo w w') :
  Calls Tryz.prog 64 #[dc bu n s, dc bv m t] w fun e' w' => e' = .returned (.tuple #[.agg #[d0, d1, d2, d3, d4, d5], .int .i64 e]) ∧ Mo w w' := by
 have bX := lifted_bd hn0 hn (i := i) (by omega)
 have bY := lifted_bd hm0 hm (i := j) (by omega)
 refine w_enter 72 Tryz.func64 Tryz.ntmps64 rfl rfl ?_
 have M : Mo w w := Mo.refl _
 refine w_seq (w_reg ?_)
 refine wl_box 26 (.tmp 0) (dc bu (n) (s)) ((dcr bu (n) (s))) rfl rfl (fun _ => by kernel_rfl) rfl ?_
 intro k1 w1 hk hz hq Q1
 have N_k1 : w.heap.size ≤ k1 := by have := M.size; omega
 replace M := M.trans hq
 clear hk hz hq
 refine wl_box 26 (.tmp 1) (dc bv (m) (t)) ((dcr bv (m) (t))) rfl rfl (fun _ => by kernel_rfl) rfl ?_
 intro k2 w2 hk hz hq Q2
 have ne_k1_k2 : k1 ≠ k2 := by have := Q1.lt; omega
 have N_k2 : w.heap.size ≤ k2 := by have := M.size; omega
 replace Q1 := Q1.mo hq
 replace M := M.trans hq
 clear hk hz hq
 refine wl_alloc 26 #[.bool false, .int .u64 0, .int .u64 0, .int .u64 0, .int .u64 0, .int .i64 0] rfl (fun _ => by kernel_rfl) rfl ?_
 intro k3 w3 hk hz hq Q3
 have ne_k1_k3 : k1 ≠ k3 := by have := Q1.lt; omega
 have ne_k2_k3 : k2 ≠ k3 := by have := Q2.lt; omega
 have N_k3 : w.heap.size ≤ k3 := by have := M.size; omega
 replace Q1 := Q1.mo hq
 replace Q2 := Q2.mo hq
 replace M := M.trans hq
 clear hk hz hq
 refine wl_m (.const (.int .i64 (0))) (.int .i64 (0)) ?_
 refine w_nil (xn_then (w_seq (w_seq (w_reg ?_))))
 refine wl_l 26 (.tmp 2) (pt k1 0) (dc bu (n) (s)) (run_row Q1 26 0 6 (dcl bu (n) (s)) rfl Tryz.underlying26 rfl sz40) ?_
 refine wl_l 26 (.tmp 3) (pt k2 0) (dc bv (m) (t)) (run_row Q2 26 0 6 (dcl bv (m) (t)) rfl Tryz.underlying26 rfl sz40) ?_
 refine wl_call 96 [(.tmp 10), (.tmp 11)] _ [dc bu (n) (s), dc bv (m) (t)] (.int .i64 (0)) rfl rfl (fun _ _ => by kernel_rfl) (rboth_ok bu n s bv m t _ hn0 hn hm0 hm h1 h2) rfl ?_
 intro w4 hq
 replace Q1 := Q1.mo hq
 replace Q2 := Q2.mo hq
 replace Q3 := Q3.mo hq
 replace M := M.trans hq
 clear hq
 refine wl_m (.tmp 12) (.int .i64 (0)) ?_
 refine w_nil (xn_then (w_seq (w_reg ?_)))
 refine wl_m (.tmp 6) (.int .i64 (0)) ?_
 refine wl_b .neq 32 (.tmp 13) (.const (.int .i64 (0))) (.int .i64 (0)) (.int .i64 (0)) (.bool false) (by kernel_rfl) ?_
 refine w_nil (xn_then (w_condF rfl (w_skip (xn_then (w_seq (w_reg ?_))))))
 refine wl_f 26 2 (.tmp 2) (pt k1 0) (pt k1 5) ?_
 refine wl_l 3 (.tmp 17) (pt k1 5) (.int .i64 (s)) (run_one Q1 3 5 rfl Tryz.underlying3 rfl) ?_
 refine wl_f 26 2 (.tmp 3) (pt k2 0) (pt k2 5) ?_
 refine wl_l 3 (.tmp 19) (pt k2 5) (.int .i64 (t)) (run_one Q2 3 5 rfl Tryz.underlying3 rfl) ?_
 refine wl_val (.int .i64 (S)) (by rw [← hS]; exact max_run _ _ _ _ _ rfl rfl _ _ _ _ _ _) rfl ?_
 refine wl_m (.tmp 21) (.int .i64 (S)) ?_
 refine w_nil (xn_then (w_seq (w_reg ?_)))
 refine wl_f 26 1 (.tmp 2) (pt k1 0) (pt k1 1) ?_
 refine wl_l 24 (.tmp 22) (pt k1 1) (.agg #[.int .u64 (l0 (n)), .int .u64 (l1 (n)), .int .u64 (l2 (n)), .int .u64 (l3 (n))]) (run_row Q1 24 1 4 _ rfl Tryz.underlying24 rfl sz24) ?_
 refine wl_m (.tmp 7) (.int .i64 (S)) ?_
 refine wl_f 26 2 (.tmp 2) (pt k1 0) (pt k1 5) ?_
 refine wl_l 3 (.tmp 25) (pt k1 5) (.int .i64 (s)) (run_one Q1 3 5 rfl Tryz.underlying3 rfl) ?_
 refine wl_b .sub 3 (.tmp 24) (.tmp 26) (.int .i64 (S)) (.int .i64 (s)) (.int .i64 ((i : Int))) (sub3_run hi (by omega) (by omega) _ _ _) ?_
 refine wl_call 97 [(.tmp 23), (.tmp 27)] _ [.agg #[.int .u64 (l0 (n)), .int .u64 (l1 (n)), .int .u64 (l2 (n)), .int .u64 (l3 (n))], .int .i64 ((i : Int))] (dw (n * 10 ^ i)) rfl rfl (fun _ _ => by kernel_rfl) (shift_n n i _ hn0 hn (by omega)) rfl ?_
 intro w5 hq
 replace Q1 := Q1.mo hq
 replace Q2 := Q2.mo hq
 replace Q3 := Q3.mo hq
 replace M := M.trans hq
 clear hq
 refine wl_alloc 74 #[.int .u64 0, .int .u64 0, .int .u64 0, .int .u64 0, .int .u64 0, .int .u64 0, .int .u64 0, .int .u64 0] rfl (fun _ => by kernel_rfl) rfl ?_
 intro k4 w6 hk hz hq Q4
 have ne_k1_k4 : k1 ≠ k4 := by have := Q1.lt; omega
 have ne_k2_k4 : k2 ≠ k4 := by have := Q2.lt; omega
 have ne_k3_k4 : k3 ≠ k4 := by have := Q3.lt; omega
 have N_k4 : w.heap.size ≤ k4 := by have := M.size; omega
 replace Q1 := Q1.mo hq
 replace Q2 := Q2.mo hq
 replace Q3 := Q3.mo hq
 replace M := M.trans hq
 clear hk hz hq
 refine wl_st 74 (.tmp 8) (.tmp 28) k4 0 (dwr (n * 10 ^ i)) _ (dwl (n * 10 ^ i)) Q4 rfl rfl rfl rfl rfl sz87 rfl rfl rfl ?_
 intro w7 hS Qn
 replace Q4 := Qn
 clear Qn
 replace Q1 := hS.other _ _ ne_k1_k4 Q1
 replace Q2 := hS.other _ _ ne_k2_k4 Q2
 replace Q3 := hS.other _ _ ne_k3_k4 Q3
 replace M := hS.mo _ N_k4 M
 clear hS
 refine w_nil (xn_then (w_seq (w_reg ?_)))
 refine wl_f 26 1 (.tmp 3) (pt k2 0) (pt k2 1) ?_
 refine wl_l 24 (.tmp 29) (pt k2 1) (.agg #[.int .u64 (l0 (m)), .int .u64 (l1 (m)), .int .u64 (l2 (m)), .int .u64 (l3 (m))]) (run_row Q2 24 1 4 _ rfl Tryz.underlying24 rfl sz24) ?_
 refine wl_m (.tmp 7) (.int .i64 (S)) ?_
 refine wl_f 26 2 (.tmp 3) (pt k2 0) (pt k2 5) ?_
 refine wl_l 3 (.tmp 32) (pt k2 5) (.int .i64 (t)) (run_one Q2 3 5 rfl Tryz.underlying3 rfl) ?_
 refine wl_b .sub 3 (.tmp 31) (.tmp 33) (.int .i64 (S)) (.int .i64 (t)) (.int .i64 ((j : Int))) (sub3_run hj (by omega) (by omega) _ _ _) ?_
 refine wl_call 97 [(.tmp 30), (.tmp 34)] _ [.agg #[.int .u64 (l0 (m)), .int .u64 (l1 (m)), .int .u64 (l2 (m)), .int .u64 (l3 (m))], .int .i64 ((j : Int))] (dw (m * 10 ^ j)) rfl rfl (fun _ _ => by kernel_rfl) (shift_n m j _ hm0 hm (by omega)) rfl ?_
 intro w8 hq
 replace Q1 := Q1.mo hq
 replace Q2 := Q2.mo hq
 replace Q3 := Q3.mo hq
 replace Q4 := Q4.mo hq
 replace M := M.trans hq
 clear hq
 refine wl_alloc 74 #[.int .u64 0, .int .u64 0, .int .u64 0, .int .u64 0, .int .u64 0, .int .u64 0, .int .u64 0, .int .u64 0] rfl (fun _ => by kernel_rfl) rfl ?_
 intro k5 w9 hk hz hq Q5
 have ne_k1_k5 : k1 ≠ k5 := by have := Q1.lt; omega
 have ne_k2_k5 : k2 ≠ k5 := by have := Q2.lt; omega
 have ne_k3_k5 : k3 ≠ k5 := by have := Q3.lt; omega
 have ne_k4_k5 : k4 ≠ k5 := by have := Q4.lt; omega
 have N_k5 : w.heap.size ≤ k5 := by have := M.size; omega
 replace Q1 := Q1.mo hq
 replace Q2 := Q2.mo hq
 replace Q3 := Q3.mo hq
 replace Q4 := Q4.mo hq
 replace M := M.trans hq
 clear hk hz hq
 refine wl_st 74 (.tmp 9) (.tmp 35) k5 0 (dwr (m * 10 ^ j)) _ (dwl (m * 10 ^ j)) Q5 rfl rfl rfl rfl rfl sz87 rfl rfl rfl ?_
 intro w10 hS Qn
 replace Q5 := Qn
 clear Qn
 replace Q1 := hS.other _ _ ne_k1_k5 Q1
 replace Q2 := hS.other _ _ ne_k2_k5 Q2
 replace Q3 := hS.other _ _ ne_k3_k5 Q3
 replace Q4 := hS.other _ _ ne_k4_k5 Q4
 replace M := hS.mo _ N_k5 M
 clear hS
 refine w_nil (xn_then (w_seq (w_seq (w_reg ?_))))
 refine wl_f 26 0 (.tmp 2) (pt k1 0) (pt k1 0) ?_
 refine wl_l 4 (.tmp 36) (pt k1 0) (.bool bu) (run_one Q1 4 0 rfl Tryz.underlying4 rfl) ?_
 refine wl_f 26 0 (.tmp 3) (pt k2 0) (pt k2 0) ?_
 refine wl_l 4 (.tmp 38) (pt k2 0) (.bool bv) (run_one Q2 4 0 rfl Tryz.underlying4 rfl) ?_
 refine wl_b .eql 4 (.tmp 37) (.tmp 39) (.bool bu) (.bool bv) (.bool true) (eqb_run hb _ _ _) ?_
 refine w_nil (xn_then (w_condT rfl (w_seq ?_)))
 refine w_any 9 [.inl (pt k1 0), .inl (.bool bu), .inl (dw (n * 10 ^ i)), .inl (dw (m * 10 ^ j)), .inl (dw (n * 10 ^ i + m * 10 ^ j)), .inl (.int .i64 (S)), .inl (.tuple #[.agg #[d0, d1, d2, d3, d4, d5], .int .i64 e]), .inl (.agg #[d0, d1, d2, d3, d4, d5]), .inl (.int .i64 e)] [] (by kernel_rfl) (by kernel_rfl) (by kernel_rfl) (by kernel_rfl) rfl (by kernel_rfl) (by kernel_rfl) late_nil ?_ ?_ ?_
 ·exact Ds.none rfl
 ·refine ea_cons ?_ (ea_cons ?_ (ea_cons ?_ (ea_cons ?_ (ea_cons ?_ (ea_cons ?_ (ea_cons ?_ (ea_cons ?_ (ea_cons ?_ (ea_nil)))))))))
  ·exact og_eq _ rfl (fun f wf hq hd K hK => go_run rfl (wo_un (fun v => Instr.fieldAt 26 v 0) (.tmp 2) (pt k1 0) (pt k1 0) (fun _ => rfl) rfl (by kernel_rfl) (hK _ (Mo.refl _))))
  ·exact og_eq _ rfl (fun f wf hq hd K hK => have Q1 := Q1.mo hq; go_run rfl (wo_load 4 (.tmp 41) (pt k1 0) (.bool bu) rfl (hd 0 rfl) (run_one Q1 4 0 rfl Tryz.underlying4 rfl) (hK _ (Mo.refl _))))
  ·exact og_eq _ rfl (fun f wf hq hd K hK => have Q4 := Q4.mo hq; go_run rfl (wo_load 74 (.tmp 8) (pt k4 0) (dw (n * 10 ^ i)) rfl rfl (run_row Q4 74 0 8 (dwl (n * 10 ^ i)) rfl Tryz.underlying74 rfl sz87) (hK _ (Mo.refl _))))
  ·exact og_eq _ rfl (fun f wf hq hd K hK => have Q5 := Q5.mo hq; go_run rfl (wo_load 74 (.tmp 9) (pt k5 0) (dw (m * 10 ^ j)) rfl rfl (run_row Q5 74 0 8 (dwl (m * 10 ^ j)) rfl Tryz.underlying74 rfl sz87) (hK _ (Mo.refl _))))
  ·exact og_eq _ rfl (fun f wf hq hd K hK => go_run rfl (wo_call 98 [(.tmp 43), (.tmp 44)] _ [dw (n * 10 ^ i), dw (m * 10 ^ j)] (dw (n * 10 ^ i + m * 10 ^ j)) rfl (li2 (hd 2 rfl) (hd 3 rfl)) (fun _ _ => by kernel_rfl) (plus_n (n * 10 ^ i) (m * 10 ^ j) _ bX.1 bX.2 bY.1 bY.2) hK))
  ·exact og_eq _ rfl (fun f wf hq hd K hK => go_run rfl (wo_mv (.tmp 7) (.int .i64 (S)) (fun _ => rfl) rfl (hK _ (Mo.refl _))))
  ·exact og_eq _ rfl (fun f wf hq hd K hK => go_run rfl (wo_call 71 [(.tmp 42), (.tmp 45), (.tmp 46)] _ [.bool bu, dw (n * 10 ^ i + m * 10 ^ j), .int .i64 (S)] (.tuple #[.agg #[d0, d1, d2, d3, d4, d5], .int .i64 e]) rfl (li3 (hd 1 rfl) (hd 4 rfl) (hd 5 rfl)) (fun _ _ => by kernel_rfl) (hfit _) hK))
  ·exact og_eq _ rfl (fun f wf hq hd K hK => go_run rfl (wo_un (fun v => Instr.extract v 0) (.tmp 47) (.tuple #[.agg #[d0, d1, d2, d3, d4, d5], .int .i64 e]) (.agg #[d0, d1, d2, d3, d4, d5]) (fun _ => rfl) (hd 6 rfl) (by kernel_rfl) (hK _ (Mo.refl _))))
  ·exact og_eq _ rfl (fun f wf hq hd K hK => go_run rfl (wo_un (fun v => Instr.extract v 1) (.tmp 47) (.tuple #[.agg #[d0, d1, d2, d3, d4, d5], .int .i64 e]) (.int .i64 e) (fun _ => rfl) (hd 6 rfl) (by kernel_rfl) (hK _ (Mo.refl _))))
 intro kf11 w11 hq hR hne
 replace Q1 := Q1.mo hq
 replace Q2 := Q2.mo hq
 replace Q3 := Q3.mo hq
 replace Q4 := Q4.mo hq
 replace Q5 := Q5.mo hq
 replace M := M.trans hq
 clear hq hR hne
 refine wl_st 26 (.tmp 4) (.tmp 48) k3 0 #[d0, d1, d2, d3, d4, d5] _ [d0, d1, d2, d3, d4, d5] Q3 rfl rfl rfl rfl rfl sz40 hd rfl rfl ?_
 intro w12 hS Qn
 replace Q3 := Qn
 clear Qn
 replace Q1 := hS.other _ _ ne_k1_k3 Q1
 replace Q2 := hS.other _ _ ne_k2_k3 Q2
 replace Q4 := hS.other _ _ ne_k3_k4.symm Q4
 replace Q5 := hS.other _ _ ne_k3_k5.symm Q5
 replace M := hS.mo _ N_k3 M
 clear hS
 refine wl_m (.tmp 49) (.int .i64 e) ?_
 refine w_nil (xn_then (w_ret (xr_then ?_)))
 exact w_ret2 _ _ (.agg #[d0, d1, d2, d3, d4, d5]) (.int .i64 e) rfl ⟨k3, rfl, (run_row Q3 26 0 6 _ rfl Tryz.underlying26 rfl sz40)⟩ rfl ⟨rfl, M⟩
theorem radd_lt (bu bv : Bool) (n m s t S : Int) (i j : Nat) (d0 d1 d2 d3 d4 d5 : Value) (e : Int) (w : World) (hn0 : 0 ≤ n) (hn : n < MM) (hm0 : 0 ≤ m) (hm : m < MM) (h1 : ck bu n s = 0) (h2 : ck bv m t = 0) (hS : max s t = S) (hi : S - s = (i : Int)) (hj : S - t = (j : Int)) (hi7 : i ≤ 18) (hj7 : j ≤ 18) (hb : (bu == bv) = false) (hc : decide (cm (n * 10 ^ i) (m * 10 ^ j) ≥ 0) = false)
  (hd : [d0, d1, d2, d3, d4, d5].all (·.oneCell') = true)
  (hfit : ∀ w, Calls Tryz.prog 71 #[.bool bv, dw (m * 10 ^ j - n * 10 ^ i), .int .i64 S] w fun e' w' => e' = .returned (.tuple #[.agg #[d0, d1, d2, d3, d4, d5], .int .i64 e]) ∧ Mo w w') :
  Calls Tryz.prog 64 #[dc bu n s, dc bv m t] w fun e' w' => e' = .returned (.tuple #[.agg #[d0, d1, d2, d3, d4, d5], .int .i64 e]) ∧ Mo w w' := by
 have bX := lifted_bd hn0 hn (i := i) (by omega)
 have bY := lifted_bd hm0 hm (i := j) (by omega)
 refine w_enter 72 Tryz.func64 Tryz.ntmps64 rfl rfl ?_
 have M : Mo w w := Mo.refl _
 refine w_seq (w_reg ?_)
 refine wl_box 26 (.tmp 0) (dc bu (n) (s)) ((dcr bu (n) (s))) rfl rfl (fun _ => by kernel_rfl) rfl ?_
 intro k1 w1 hk hz hq Q1
 have N_k1 : w.heap.size ≤ k1 := by have := M.size; omega
 replace M := M.trans hq
 clear hk hz hq
 refine wl_box 26 (.tmp 1) (dc bv (m) (t)) ((dcr bv (m) (t))) rfl rfl (fun _ => by kernel_rfl) rfl ?_
 intro k2 w2 hk hz hq Q2
 have ne_k1_k2 : k1 ≠ k2 := by have := Q1.lt; omega
 have N_k2 : w.heap.size ≤ k2 := by have := M.size; omega
 replace Q1 := Q1.mo hq
 replace M := M.trans hq
 clear hk hz hq
 refine wl_alloc 26 #[.bool false, .int .u64 0, .int .u64 0, .int .u64 0, .int .u64 0, .int .i64 0] rfl (fun _ => by kernel_rfl) rfl ?_
 intro k3 w3 hk hz hq Q3
 have ne_k1_k3 : k1 ≠ k3 := by have := Q1.lt; omega
 have ne_k2_k3 : k2 ≠ k3 := by have := Q2.lt; omega
 have N_k3 : w.heap.size ≤ k3 := by have := M.size; omega
 replace Q1 := Q1.mo hq
 replace Q2 := Q2.mo hq
 replace M := M.trans hq
 clear hk hz hq
 refine wl_m (.const (.int .i64 (0))) (.int .i64 (0)) ?_
 refine w_nil (xn_then (w_seq (w_seq (w_reg ?_))))
 refine wl_l 26 (.tmp 2) (pt k1 0) (dc bu (n) (s)) (run_row Q1 26 0 6 (dcl bu (n) (s)) rfl Tryz.underlying26 rfl sz40) ?_
 refine wl_l 26 (.tmp 3) (pt k2 0) (dc bv (m) (t)) (run_row Q2 26 0 6 (dcl bv (m) (t)) rfl Tryz.underlying26 rfl sz40) ?_
 refine wl_call 96 [(.tmp 10), (.tmp 11)] _ [dc bu (n) (s), dc bv (m) (t)] (.int .i64 (0)) rfl rfl (fun _ _ => by kernel_rfl) (rboth_ok bu n s bv m t _ hn0 hn hm0 hm h1 h2) rfl ?_
 intro w4 hq
 replace Q1 := Q1.mo hq
 replace Q2 := Q2.mo hq
 replace Q3 := Q3.mo hq
 replace M := M.trans hq
 clear hq
 refine wl_m (.tmp 12) (.int .i64 (0)) ?_
 refine w_nil (xn_then (w_seq (w_reg ?_)))
 refine wl_m (.tmp 6) (.int .i64 (0)) ?_
 refine wl_b .neq 32 (.tmp 13) (.const (.int .i64 (0))) (.int .i64 (0)) (.int .i64 (0)) (.bool false) (by kernel_rfl) ?_
 refine w_nil (xn_then (w_condF rfl (w_skip (xn_then (w_seq (w_reg ?_))))))
 refine wl_f 26 2 (.tmp 2) (pt k1 0) (pt k1 5) ?_
 refine wl_l 3 (.tmp 17) (pt k1 5) (.int .i64 (s)) (run_one Q1 3 5 rfl Tryz.underlying3 rfl) ?_
 refine wl_f 26 2 (.tmp 3) (pt k2 0) (pt k2 5) ?_
 refine wl_l 3 (.tmp 19) (pt k2 5) (.int .i64 (t)) (run_one Q2 3 5 rfl Tryz.underlying3 rfl) ?_
 refine wl_val (.int .i64 (S)) (by rw [← hS]; exact max_run _ _ _ _ _ rfl rfl _ _ _ _ _ _) rfl ?_
 refine wl_m (.tmp 21) (.int .i64 (S)) ?_
 refine w_nil (xn_then (w_seq (w_reg ?_)))
 refine wl_f 26 1 (.tmp 2) (pt k1 0) (pt k1 1) ?_
 refine wl_l 24 (.tmp 22) (pt k1 1) (.agg #[.int .u64 (l0 (n)), .int .u64 (l1 (n)), .int .u64 (l2 (n)), .int .u64 (l3 (n))]) (run_row Q1 24 1 4 _ rfl Tryz.underlying24 rfl sz24) ?_
 refine wl_m (.tmp 7) (.int .i64 (S)) ?_
 refine wl_f 26 2 (.tmp 2) (pt k1 0) (pt k1 5) ?_
 refine wl_l 3 (.tmp 25) (pt k1 5) (.int .i64 (s)) (run_one Q1 3 5 rfl Tryz.underlying3 rfl) ?_
 refine wl_b .sub 3 (.tmp 24) (.tmp 26) (.int .i64 (S)) (.int .i64 (s)) (.int .i64 ((i : Int))) (sub3_run hi (by omega) (by omega) _ _ _) ?_
 refine wl_call 97 [(.tmp 23), (.tmp 27)] _ [.agg #[.int .u64 (l0 (n)), .int .u64 (l1 (n)), .int .u64 (l2 (n)), .int .u64 (l3 (n))], .int .i64 ((i : Int))] (dw (n * 10 ^ i)) rfl rfl (fun _ _ => by kernel_rfl) (shift_n n i _ hn0 hn (by omega)) rfl ?_
 intro w5 hq
 replace Q1 := Q1.mo hq
 replace Q2 := Q2.mo hq
 replace Q3 := Q3.mo hq
 replace M := M.trans hq
 clear hq
 refine wl_alloc 74 #[.int .u64 0, .int .u64 0, .int .u64 0, .int .u64 0, .int .u64 0, .int .u64 0, .int .u64 0, .int .u64 0] rfl (fun _ => by kernel_rfl) rfl ?_
 intro k4 w6 hk hz hq Q4
 have ne_k1_k4 : k1 ≠ k4 := by have := Q1.lt; omega
 have ne_k2_k4 : k2 ≠ k4 := by have := Q2.lt; omega
 have ne_k3_k4 : k3 ≠ k4 := by have := Q3.lt; omega
 have N_k4 : w.heap.size ≤ k4 := by have := M.size; omega
 replace Q1 := Q1.mo hq
 replace Q2 := Q2.mo hq
 replace Q3 := Q3.mo hq
 replace M := M.trans hq
 clear hk hz hq
 refine wl_st 74 (.tmp 8) (.tmp 28) k4 0 (dwr (n * 10 ^ i)) _ (dwl (n * 10 ^ i)) Q4 rfl rfl rfl rfl rfl sz87 rfl rfl rfl ?_
 intro w7 hS Qn
 replace Q4 := Qn
 clear Qn
 replace Q1 := hS.other _ _ ne_k1_k4 Q1
 replace Q2 := hS.other _ _ ne_k2_k4 Q2
 replace Q3 := hS.other _ _ ne_k3_k4 Q3
 replace M := hS.mo _ N_k4 M
 clear hS
 refine w_nil (xn_then (w_seq (w_reg ?_)))
 refine wl_f 26 1 (.tmp 3) (pt k2 0) (pt k2 1) ?_
 refine wl_l 24 (.tmp 29) (pt k2 1) (.agg #[.int .u64 (l0 (m)), .int .u64 (l1 (m)), .int .u64 (l2 (m)), .int .u64 (l3 (m))]) (run_row Q2 24 1 4 _ rfl Tryz.underlying24 rfl sz24) ?_
 refine wl_m (.tmp 7) (.int .i64 (S)) ?_
 refine wl_f 26 2 (.tmp 3) (pt k2 0) (pt k2 5) ?_
 refine wl_l 3 (.tmp 32) (pt k2 5) (.int .i64 (t)) (run_one Q2 3 5 rfl Tryz.underlying3 rfl) ?_
 refine wl_b .sub 3 (.tmp 31) (.tmp 33) (.int .i64 (S)) (.int .i64 (t)) (.int .i64 ((j : Int))) (sub3_run hj (by omega) (by omega) _ _ _) ?_
 refine wl_call 97 [(.tmp 30), (.tmp 34)] _ [.agg #[.int .u64 (l0 (m)), .int .u64 (l1 (m)), .int .u64 (l2 (m)), .int .u64 (l3 (m))], .int .i64 ((j : Int))] (dw (m * 10 ^ j)) rfl rfl (fun _ _ => by kernel_rfl) (shift_n m j _ hm0 hm (by omega)) rfl ?_
 intro w8 hq
 replace Q1 := Q1.mo hq
 replace Q2 := Q2.mo hq
 replace Q3 := Q3.mo hq
 replace Q4 := Q4.mo hq
 replace M := M.trans hq
 clear hq
 refine wl_alloc 74 #[.int .u64 0, .int .u64 0, .int .u64 0, .int .u64 0, .int .u64 0, .int .u64 0, .int .u64 0, .int .u64 0] rfl (fun _ => by kernel_rfl) rfl ?_
 intro k5 w9 hk hz hq Q5
 have ne_k1_k5 : k1 ≠ k5 := by have := Q1.lt; omega
 have ne_k2_k5 : k2 ≠ k5 := by have := Q2.lt; omega
 have ne_k3_k5 : k3 ≠ k5 := by have := Q3.lt; omega
 have ne_k4_k5 : k4 ≠ k5 := by have := Q4.lt; omega
 have N_k5 : w.heap.size ≤ k5 := by have := M.size; omega
 replace Q1 := Q1.mo hq
 replace Q2 := Q2.mo hq
 replace Q3 := Q3.mo hq
 replace Q4 := Q4.mo hq
 replace M := M.trans hq
 clear hk hz hq
 refine wl_st 74 (.tmp 9) (.tmp 35) k5 0 (dwr (m * 10 ^ j)) _ (dwl (m * 10 ^ j)) Q5 rfl rfl rfl rfl rfl sz87 rfl rfl rfl ?_
 intro w10 hS Qn
 replace Q5 := Qn
 clear Qn
 replace Q1 := hS.other _ _ ne_k1_k5 Q1
 replace Q2 := hS.other _ _ ne_k2_k5 Q2
 replace Q3 := hS.other _ _ ne_k3_k5 Q3
 replace Q4 := hS.other _ _ ne_k4_k5 Q4
 replace M := hS.mo _ N_k5 M
 clear hS
 refine w_nil (xn_then (w_seq (w_seq (w_reg ?_))))
 refine wl_f 26 0 (.tmp 2) (pt k1 0) (pt k1 0) ?_
 refine wl_l 4 (.tmp 36) (pt k1 0) (.bool bu) (run_one Q1 4 0 rfl Tryz.underlying4 rfl) ?_
 refine wl_f 26 0 (.tmp 3) (pt k2 0) (pt k2 0) ?_
 refine wl_l 4 (.tmp 38) (pt k2 0) (.bool bv) (run_one Q2 4 0 rfl Tryz.underlying4 rfl) ?_
 refine wl_b .eql 4 (.tmp 37) (.tmp 39) (.bool bu) (.bool bv) (.bool false) (eqb_run hb _ _ _) ?_
 refine w_nil (xn_then (w_condF rfl (w_skip (xn_then (w_seq (w_seq (w_reg ?_)))))))
 refine wl_l 74 (.tmp 8) (pt k4 0) (dw (n * 10 ^ i)) (run_row Q4 74 0 8 (dwl (n * 10 ^ i)) rfl Tryz.underlying74 rfl sz87) ?_
 refine wl_l 74 (.tmp 9) (pt k5 0) (dw (m * 10 ^ j)) (run_row Q5 74 0 8 (dwl (m * 10 ^ j)) rfl Tryz.underlying74 rfl sz87) ?_
 refine wl_call 99 [(.tmp 50), (.tmp 51)] _ [dw (n * 10 ^ i), dw (m * 10 ^ j)] (.int .i64 (cm (n * 10 ^ i) (m * 10 ^ j))) rfl rfl (fun _ _ => by kernel_rfl) (rcmpw_n (n * 10 ^ i) (m * 10 ^ j) _ bX.1 bX.2 bY.1 bY.2) rfl ?_
 intro w11 hq
 replace Q1 := Q1.mo hq
 replace Q2 := Q2.mo hq
 replace Q3 := Q3.mo hq
 replace Q4 := Q4.mo hq
 replace Q5 := Q5.mo hq
 replace M := M.trans hq
 clear hq
 refine wl_b .geq 3 (.tmp 52) (.const (.int .i64 (0))) (.int .i64 (cm (n * 10 ^ i) (m * 10 ^ j))) (.int .i64 (0)) (.bool false) (geqi_run hc _ _ _) ?_
 refine w_nil (xn_then (w_condF rfl (w_skip (xn_then (w_seq ?_)))))
 refine w_any 9 [.inl (pt k2 0), .inl (.bool bv), .inl (dw (m * 10 ^ j)), .inl (dw (n * 10 ^ i)), .inl (dw (m * 10 ^ j - n * 10 ^ i)), .inl (.int .i64 (S)), .inl (.tuple #[.agg #[d0, d1, d2, d3, d4, d5], .int .i64 e]), .inl (.agg #[d0, d1, d2, d3, d4, d5]), .inl (.int .i64 e)] [] (by kernel_rfl) (by kernel_rfl) (by kernel_rfl) (by kernel_rfl) rfl (by kernel_rfl) (by kernel_rfl) late_nil ?_ ?_ ?_
 ·exact Ds.none rfl
 ·refine ea_cons ?_ (ea_cons ?_ (ea_cons ?_ (ea_cons ?_ (ea_cons ?_ (ea_cons ?_ (ea_cons ?_ (ea_cons ?_ (ea_cons ?_ (ea_nil)))))))))
  ·exact og_eq _ rfl (fun f wf hq hd K hK => go_run rfl (wo_un (fun v => Instr.fieldAt 26 v 0) (.tmp 3) (pt k2 0) (pt k2 0) (fun _ => rfl) rfl (by kernel_rfl) (hK _ (Mo.refl _))))
  ·exact og_eq _ rfl (fun f wf hq hd K hK => have Q2 := Q2.mo hq; go_run rfl (wo_load 4 (.tmp 63) (pt k2 0) (.bool bv) rfl (hd 0 rfl) (run_one Q2 4 0 rfl Tryz.underlying4 rfl) (hK _ (Mo.refl _))))
  ·exact og_eq _ rfl (fun f wf hq hd K hK => have Q5 := Q5.mo hq; go_run rfl (wo_load 74 (.tmp 9) (pt k5 0) (dw (m * 10 ^ j)) rfl rfl (run_row Q5 74 0 8 (dwl (m * 10 ^ j)) rfl Tryz.underlying74 rfl sz87) (hK _ (Mo.refl _))))
  ·exact og_eq _ rfl (fun f wf hq hd K hK => have Q4 := Q4.mo hq; go_run rfl (wo_load 74 (.tmp 8) (pt k4 0) (dw (n * 10 ^ i)) rfl rfl (run_row Q4 74 0 8 (dwl (n * 10 ^ i)) rfl Tryz.underlying74 rfl sz87) (hK _ (Mo.refl _))))
  ·exact og_eq _ rfl (fun f wf hq hd K hK => go_run rfl (wo_call 100 [(.tmp 65), (.tmp 66)] _ [dw (m * 10 ^ j), dw (n * 10 ^ i)] (dw (m * 10 ^ j - n * 10 ^ i)) rfl (li2 (hd 2 rfl) (hd 3 rfl)) (fun _ _ => by kernel_rfl) (minus_n (m * 10 ^ j) (n * 10 ^ i) _ bY.1 bY.2 bX.1 bX.2) hK))
  ·exact og_eq _ rfl (fun f wf hq hd K hK => go_run rfl (wo_mv (.tmp 7) (.int .i64 (S)) (fun _ => rfl) rfl (hK _ (Mo.refl _))))
  ·exact og_eq _ rfl (fun f wf hq hd K hK => go_run rfl (wo_call 71 [(.tmp 64), (.tmp 67), (.tmp 68)] _ [.bool bv, dw (m * 10 ^ j - n * 10 ^ i), .int .i64 (S)] (.tuple #[.agg #[d0, d1, d2, d3, d4, d5], .int .i64 e]) rfl (li3 (hd 1 rfl) (hd 4 rfl) (hd 5 rfl)) (fun _ _ => by kernel_rfl) (hfit _) hK))
  ·exact og_eq _ rfl (fun f wf hq hd K hK => go_run rfl (wo_un (fun v => Instr.extract v 0) (.tmp 69) (.tuple #[.agg #[d0, d1, d2, d3, d4, d5], .int .i64 e]) (.agg #[d0, d1, d2, d3, d4, d5]) (fun _ => rfl) (hd 6 rfl) (by kernel_rfl) (hK _ (Mo.refl _))))
  ·exact og_eq _ rfl (fun f wf hq hd K hK => go_run rfl (wo_un (fun v => Instr.extract v 1) (.tmp 69) (.tuple #[.agg #[d0, d1, d2, d3, d4, d5], .int .i64 e]) (.int .i64 e) (fun _ => rfl) (hd 6 rfl) (by kernel_rfl) (hK _ (Mo.refl _))))
 intro kf12 w12 hq hR hne
 replace Q1 := Q1.mo hq
 replace Q2 := Q2.mo hq
 replace Q3 := Q3.mo hq
 replace Q4 := Q4.mo hq
 replace Q5 := Q5.mo hq
 replace M := M.trans hq
 clear hq hR hne
 refine wl_st 26 (.tmp 4) (.tmp 70) k3 0 #[d0, d1, d2, d3, d4, d5] _ [d0, d1, d2, d3, d4, d5] Q3 rfl rfl rfl rfl rfl sz40 hd rfl rfl ?_
 intro w13 hS Qn
 replace Q3 := Qn
 clear Qn
 replace Q1 := hS.other _ _ ne_k1_k3 Q1
 replace Q2 := hS.other _ _ ne_k2_k3 Q2
 replace Q4 := hS.other _ _ ne_k3_k4.symm Q4
 replace Q5 := hS.other _ _ ne_k3_k5.symm Q5
 replace M := hS.mo _ N_k3 M
 clear hS
 refine wl_m (.tmp 71) (.int .i64 e) ?_
 refine w_nil (xn_then (w_ret ?_))
 exact w_ret2 _ _ (.agg #[d0, d1, d2, d3, d4, d5]) (.int .i64 e) rfl ⟨k3, rfl, (run_row Q3 26 0 6 _ rfl Tryz.underlying26 rfl sz40)⟩ rfl ⟨rfl, M⟩
theorem radd_ge (bu bv : Bool) (n m s t S : Int) (i j : Nat) (d0 d1 d2 d3 d4 d5 : Value) (e : Int) (w : World) (hn0 : 0 ≤ n) (hn : n < MM) (hm0 : 0 ≤ m) (hm : m < MM) (h1 : ck bu n s = 0) (h2 : ck bv m t = 0) (hS : max s t = S) (hi : S - s = (i : Int)) (hj : S - t = (j : Int)) (hi7 : i ≤ 18) (hj7 : j ≤ 18) (hb : (bu == bv) = false) (hc : decide (cm (n * 10 ^ i) (m * 10 ^ j) ≥ 0) = true)
  (hd : [d0, d1, d2, d3, d4, d5].all (·.oneCell') = true)
  (hfit : ∀ w, Calls Tryz.prog 71 #[.bool bu, dw (n * 10 ^ i - m * 10 ^ j), .int .i64 S] w fun e' w' => e' = .returned (.tuple #[.agg #[d0, d1, d2, d3, d4, d5], .int .i64 e]) ∧ Mo w w') :
  Calls Tryz.prog 64 #[dc bu n s, dc bv m t] w fun e' w' => e' = .returned (.tuple #[.agg #[d0, d1, d2, d3, d4, d5], .int .i64 e]) ∧ Mo w w' := by
 have bX := lifted_bd hn0 hn (i := i) (by omega)
 have bY := lifted_bd hm0 hm (i := j) (by omega)
 refine w_enter 72 Tryz.func64 Tryz.ntmps64 rfl rfl ?_
 have M : Mo w w := Mo.refl _
 refine w_seq (w_reg ?_)
 refine wl_box 26 (.tmp 0) (dc bu (n) (s)) ((dcr bu (n) (s))) rfl rfl (fun _ => by kernel_rfl) rfl ?_
 intro k1 w1 hk hz hq Q1
 have N_k1 : w.heap.size ≤ k1 := by have := M.size; omega
 replace M := M.trans hq
 clear hk hz hq
 refine wl_box 26 (.tmp 1) (dc bv (m) (t)) ((dcr bv (m) (t))) rfl rfl (fun _ => by kernel_rfl) rfl ?_
 intro k2 w2 hk hz hq Q2
 have ne_k1_k2 : k1 ≠ k2 := by have := Q1.lt; omega
 have N_k2 : w.heap.size ≤ k2 := by have := M.size; omega
 replace Q1 := Q1.mo hq
 replace M := M.trans hq
 clear hk hz hq
 refine wl_alloc 26 #[.bool false, .int .u64 0, .int .u64 0, .int .u64 0, .int .u64 0, .int .i64 0] rfl (fun _ => by kernel_rfl) rfl ?_
 intro k3 w3 hk hz hq Q3
 have ne_k1_k3 : k1 ≠ k3 := by have := Q1.lt; omega
 have ne_k2_k3 : k2 ≠ k3 := by have := Q2.lt; omega
 have N_k3 : w.heap.size ≤ k3 := by have := M.size; omega
 replace Q1 := Q1.mo hq
 replace Q2 := Q2.mo hq
 replace M := M.trans hq
 clear hk hz hq
 refine wl_m (.const (.int .i64 (0))) (.int .i64 (0)) ?_
 refine w_nil (xn_then (w_seq (w_seq (w_reg ?_))))
 refine wl_l 26 (.tmp 2) (pt k1 0) (dc bu (n) (s)) (run_row Q1 26 0 6 (dcl bu (n) (s)) rfl Tryz.underlying26 rfl sz40) ?_
 refine wl_l 26 (.tmp 3) (pt k2 0) (dc bv (m) (t)) (run_row Q2 26 0 6 (dcl bv (m) (t)) rfl Tryz.underlying26 rfl sz40) ?_
 refine wl_call 96 [(.tmp 10), (.tmp 11)] _ [dc bu (n) (s), dc bv (m) (t)] (.int .i64 (0)) rfl rfl (fun _ _ => by kernel_rfl) (rboth_ok bu n s bv m t _ hn0 hn hm0 hm h1 h2) rfl ?_
 intro w4 hq
 replace Q1 := Q1.mo hq
 replace Q2 := Q2.mo hq
 replace Q3 := Q3.mo hq
 replace M := M.trans hq
 clear hq
 refine wl_m (.tmp 12) (.int .i64 (0)) ?_
 refine w_nil (xn_then (w_seq (w_reg ?_)))
 refine wl_m (.tmp 6) (.int .i64 (0)) ?_
 refine wl_b .neq 32 (.tmp 13) (.const (.int .i64 (0))) (.int .i64 (0)) (.int .i64 (0)) (.bool false) (by kernel_rfl) ?_
 refine w_nil (xn_then (w_condF rfl (w_skip (xn_then (w_seq (w_reg ?_))))))
 refine wl_f 26 2 (.tmp 2) (pt k1 0) (pt k1 5) ?_
 refine wl_l 3 (.tmp 17) (pt k1 5) (.int .i64 (s)) (run_one Q1 3 5 rfl Tryz.underlying3 rfl) ?_
 refine wl_f 26 2 (.tmp 3) (pt k2 0) (pt k2 5) ?_
 refine wl_l 3 (.tmp 19) (pt k2 5) (.int .i64 (t)) (run_one Q2 3 5 rfl Tryz.underlying3 rfl) ?_
 refine wl_val (.int .i64 (S)) (by rw [← hS]; exact max_run _ _ _ _ _ rfl rfl _ _ _ _ _ _) rfl ?_
 refine wl_m (.tmp 21) (.int .i64 (S)) ?_
 refine w_nil (xn_then (w_seq (w_reg ?_)))
 refine wl_f 26 1 (.tmp 2) (pt k1 0) (pt k1 1) ?_
 refine wl_l 24 (.tmp 22) (pt k1 1) (.agg #[.int .u64 (l0 (n)), .int .u64 (l1 (n)), .int .u64 (l2 (n)), .int .u64 (l3 (n))]) (run_row Q1 24 1 4 _ rfl Tryz.underlying24 rfl sz24) ?_
 refine wl_m (.tmp 7) (.int .i64 (S)) ?_
 refine wl_f 26 2 (.tmp 2) (pt k1 0) (pt k1 5) ?_
 refine wl_l 3 (.tmp 25) (pt k1 5) (.int .i64 (s)) (run_one Q1 3 5 rfl Tryz.underlying3 rfl) ?_
 refine wl_b .sub 3 (.tmp 24) (.tmp 26) (.int .i64 (S)) (.int .i64 (s)) (.int .i64 ((i : Int))) (sub3_run hi (by omega) (by omega) _ _ _) ?_
 refine wl_call 97 [(.tmp 23), (.tmp 27)] _ [.agg #[.int .u64 (l0 (n)), .int .u64 (l1 (n)), .int .u64 (l2 (n)), .int .u64 (l3 (n))], .int .i64 ((i : Int))] (dw (n * 10 ^ i)) rfl rfl (fun _ _ => by kernel_rfl) (shift_n n i _ hn0 hn (by omega)) rfl ?_
 intro w5 hq
 replace Q1 := Q1.mo hq
 replace Q2 := Q2.mo hq
 replace Q3 := Q3.mo hq
 replace M := M.trans hq
 clear hq
 refine wl_alloc 74 #[.int .u64 0, .int .u64 0, .int .u64 0, .int .u64 0, .int .u64 0, .int .u64 0, .int .u64 0, .int .u64 0] rfl (fun _ => by kernel_rfl) rfl ?_
 intro k4 w6 hk hz hq Q4
 have ne_k1_k4 : k1 ≠ k4 := by have := Q1.lt; omega
 have ne_k2_k4 : k2 ≠ k4 := by have := Q2.lt; omega
 have ne_k3_k4 : k3 ≠ k4 := by have := Q3.lt; omega
 have N_k4 : w.heap.size ≤ k4 := by have := M.size; omega
 replace Q1 := Q1.mo hq
 replace Q2 := Q2.mo hq
 replace Q3 := Q3.mo hq
 replace M := M.trans hq
 clear hk hz hq
 refine wl_st 74 (.tmp 8) (.tmp 28) k4 0 (dwr (n * 10 ^ i)) _ (dwl (n * 10 ^ i)) Q4 rfl rfl rfl rfl rfl sz87 rfl rfl rfl ?_
 intro w7 hS Qn
 replace Q4 := Qn
 clear Qn
 replace Q1 := hS.other _ _ ne_k1_k4 Q1
 replace Q2 := hS.other _ _ ne_k2_k4 Q2
 replace Q3 := hS.other _ _ ne_k3_k4 Q3
 replace M := hS.mo _ N_k4 M
 clear hS
 refine w_nil (xn_then (w_seq (w_reg ?_)))
 refine wl_f 26 1 (.tmp 3) (pt k2 0) (pt k2 1) ?_
 refine wl_l 24 (.tmp 29) (pt k2 1) (.agg #[.int .u64 (l0 (m)), .int .u64 (l1 (m)), .int .u64 (l2 (m)), .int .u64 (l3 (m))]) (run_row Q2 24 1 4 _ rfl Tryz.underlying24 rfl sz24) ?_
 refine wl_m (.tmp 7) (.int .i64 (S)) ?_
 refine wl_f 26 2 (.tmp 3) (pt k2 0) (pt k2 5) ?_
 refine wl_l 3 (.tmp 32) (pt k2 5) (.int .i64 (t)) (run_one Q2 3 5 rfl Tryz.underlying3 rfl) ?_
 refine wl_b .sub 3 (.tmp 31) (.tmp 33) (.int .i64 (S)) (.int .i64 (t)) (.int .i64 ((j : Int))) (sub3_run hj (by omega) (by omega) _ _ _) ?_
 refine wl_call 97 [(.tmp 30), (.tmp 34)] _ [.agg #[.int .u64 (l0 (m)), .int .u64 (l1 (m)), .int .u64 (l2 (m)), .int .u64 (l3 (m))], .int .i64 ((j : Int))] (dw (m * 10 ^ j)) rfl rfl (fun _ _ => by kernel_rfl) (shift_n m j _ hm0 hm (by omega)) rfl ?_
 intro w8 hq
 replace Q1 := Q1.mo hq
 replace Q2 := Q2.mo hq
 replace Q3 := Q3.mo hq
 replace Q4 := Q4.mo hq
 replace M := M.trans hq
 clear hq
 refine wl_alloc 74 #[.int .u64 0, .int .u64 0, .int .u64 0, .int .u64 0, .int .u64 0, .int .u64 0, .int .u64 0, .int .u64 0] rfl (fun _ => by kernel_rfl) rfl ?_
 intro k5 w9 hk hz hq Q5
 have ne_k1_k5 : k1 ≠ k5 := by have := Q1.lt; omega
 have ne_k2_k5 : k2 ≠ k5 := by have := Q2.lt; omega
 have ne_k3_k5 : k3 ≠ k5 := by have := Q3.lt; omega
 have ne_k4_k5 : k4 ≠ k5 := by have := Q4.lt; omega
 have N_k5 : w.heap.size ≤ k5 := by have := M.size; omega
 replace Q1 := Q1.mo hq
 replace Q2 := Q2.mo hq
 replace Q3 := Q3.mo hq
 replace Q4 := Q4.mo hq
 replace M := M.trans hq
 clear hk hz hq
 refine wl_st 74 (.tmp 9) (.tmp 35) k5 0 (dwr (m * 10 ^ j)) _ (dwl (m * 10 ^ j)) Q5 rfl rfl rfl rfl rfl sz87 rfl rfl rfl ?_
 intro w10 hS Qn
 replace Q5 := Qn
 clear Qn
 replace Q1 := hS.other _ _ ne_k1_k5 Q1
 replace Q2 := hS.other _ _ ne_k2_k5 Q2
 replace Q3 := hS.other _ _ ne_k3_k5 Q3
 replace Q4 := hS.other _ _ ne_k4_k5 Q4
 replace M := hS.mo _ N_k5 M
 clear hS
 refine w_nil (xn_then (w_seq (w_seq (w_reg ?_))))
 refine wl_f 26 0 (.tmp 2) (pt k1 0) (pt k1 0) ?_
 refine wl_l 4 (.tmp 36) (pt k1 0) (.bool bu) (run_one Q1 4 0 rfl Tryz.underlying4 rfl) ?_
 refine wl_f 26 0 (.tmp 3) (pt k2 0) (pt k2 0) ?_
 refine wl_l 4 (.tmp 38) (pt k2 0) (.bool bv) (run_one Q2 4 0 rfl Tryz.underlying4 rfl) ?_
 refine wl_b .eql 4 (.tmp 37) (.tmp 39) (.bool bu) (.bool bv) (.bool false) (eqb_run hb _ _ _) ?_
 refine w_nil (xn_then (w_condF rfl (w_skip (xn_then (w_seq (w_seq (w_reg ?_)))))))
 refine wl_l 74 (.tmp 8) (pt k4 0) (dw (n * 10 ^ i)) (run_row Q4 74 0 8 (dwl (n * 10 ^ i)) rfl Tryz.underlying74 rfl sz87) ?_
 refine wl_l 74 (.tmp 9) (pt k5 0) (dw (m * 10 ^ j)) (run_row Q5 74 0 8 (dwl (m * 10 ^ j)) rfl Tryz.underlying74 rfl sz87) ?_
 refine wl_call 99 [(.tmp 50), (.tmp 51)] _ [dw (n * 10 ^ i), dw (m * 10 ^ j)] (.int .i64 (cm (n * 10 ^ i) (m * 10 ^ j))) rfl rfl (fun _ _ => by kernel_rfl) (rcmpw_n (n * 10 ^ i) (m * 10 ^ j) _ bX.1 bX.2 bY.1 bY.2) rfl ?_
 intro w11 hq
 replace Q1 := Q1.mo hq
 replace Q2 := Q2.mo hq
 replace Q3 := Q3.mo hq
 replace Q4 := Q4.mo hq
 replace Q5 := Q5.mo hq
 replace M := M.trans hq
 clear hq
 refine wl_b .geq 3 (.tmp 52) (.const (.int .i64 (0))) (.int .i64 (cm (n * 10 ^ i) (m * 10 ^ j))) (.int .i64 (0)) (.bool true) (geqi_run hc _ _ _) ?_
 refine w_nil (xn_then (w_condT rfl (w_seq ?_)))
 refine w_any 9 [.inl (pt k1 0), .inl (.bool bu), .inl (dw (n * 10 ^ i)), .inl (dw (m * 10 ^ j)), .inl (dw (n * 10 ^ i - m * 10 ^ j)), .inl (.int .i64 (S)), .inl (.tuple #[.agg #[d0, d1, d2, d3, d4, d5], .int .i64 e]), .inl (.agg #[d0, d1, d2, d3, d4, d5]), .inl (.int .i64 e)] [] (by kernel_rfl) (by kernel_rfl) (by kernel_rfl) (by kernel_rfl) rfl (by kernel_rfl) (by kernel_rfl) late_nil ?_ ?_ ?_
 ·exact Ds.none rfl
 ·refine ea_cons ?_ (ea_cons ?_ (ea_cons ?_ (ea_cons ?_ (ea_cons ?_ (ea_cons ?_ (ea_cons ?_ (ea_cons ?_ (ea_cons ?_ (ea_nil)))))))))
  ·exact og_eq _ rfl (fun f wf hq hd K hK => go_run rfl (wo_un (fun v => Instr.fieldAt 26 v 0) (.tmp 2) (pt k1 0) (pt k1 0) (fun _ => rfl) rfl (by kernel_rfl) (hK _ (Mo.refl _))))
  ·exact og_eq _ rfl (fun f wf hq hd K hK => have Q1 := Q1.mo hq; go_run rfl (wo_load 4 (.tmp 54) (pt k1 0) (.bool bu) rfl (hd 0 rfl) (run_one Q1 4 0 rfl Tryz.underlying4 rfl) (hK _ (Mo.refl _))))
  ·exact og_eq _ rfl (fun f wf hq hd K hK => have Q4 := Q4.mo hq; go_run rfl (wo_load 74 (.tmp 8) (pt k4 0) (dw (n * 10 ^ i)) rfl rfl (run_row Q4 74 0 8 (dwl (n * 10 ^ i)) rfl Tryz.underlying74 rfl sz87) (hK _ (Mo.refl _))))
  ·exact og_eq _ rfl (fun f wf hq hd K hK => have Q5 := Q5.mo hq; go_run rfl (wo_load 74 (.tmp 9) (pt k5 0) (dw (m * 10 ^ j)) rfl rfl (run_row Q5 74 0 8 (dwl (m * 10 ^ j)) rfl Tryz.underlying74 rfl sz87) (hK _ (Mo.refl _))))
  ·exact og_eq _ rfl (fun f wf hq hd K hK => go_run rfl (wo_call 100 [(.tmp 56), (.tmp 57)] _ [dw (n * 10 ^ i), dw (m * 10 ^ j)] (dw (n * 10 ^ i - m * 10 ^ j)) rfl (li2 (hd 2 rfl) (hd 3 rfl)) (fun _ _ => by kernel_rfl) (minus_n (n * 10 ^ i) (m * 10 ^ j) _ bX.1 bX.2 bY.1 bY.2) hK))
  ·exact og_eq _ rfl (fun f wf hq hd K hK => go_run rfl (wo_mv (.tmp 7) (.int .i64 (S)) (fun _ => rfl) rfl (hK _ (Mo.refl _))))
  ·exact og_eq _ rfl (fun f wf hq hd K hK => go_run rfl (wo_call 71 [(.tmp 55), (.tmp 58), (.tmp 59)] _ [.bool bu, dw (n * 10 ^ i - m * 10 ^ j), .int .i64 (S)] (.tuple #[.agg #[d0, d1, d2, d3, d4, d5], .int .i64 e]) rfl (li3 (hd 1 rfl) (hd 4 rfl) (hd 5 rfl)) (fun _ _ => by kernel_rfl) (hfit _) hK))
  ·exact og_eq _ rfl (fun f wf hq hd K hK => go_run rfl (wo_un (fun v => Instr.extract v 0) (.tmp 60) (.tuple #[.agg #[d0, d1, d2, d3, d4, d5], .int .i64 e]) (.agg #[d0, d1, d2, d3, d4, d5]) (fun _ => rfl) (hd 6 rfl) (by kernel_rfl) (hK _ (Mo.refl _))))
  ·exact og_eq _ rfl (fun f wf hq hd K hK => go_run rfl (wo_un (fun v => Instr.extract v 1) (.tmp 60) (.tuple #[.agg #[d0, d1, d2, d3, d4, d5], .int .i64 e]) (.int .i64 e) (fun _ => rfl) (hd 6 rfl) (by kernel_rfl) (hK _ (Mo.refl _))))
 intro kf12 w12 hq hR hne
 replace Q1 := Q1.mo hq
 replace Q2 := Q2.mo hq
 replace Q3 := Q3.mo hq
 replace Q4 := Q4.mo hq
 replace Q5 := Q5.mo hq
 replace M := M.trans hq
 clear hq hR hne
 refine wl_st 26 (.tmp 4) (.tmp 61) k3 0 #[d0, d1, d2, d3, d4, d5] _ [d0, d1, d2, d3, d4, d5] Q3 rfl rfl rfl rfl rfl sz40 hd rfl rfl ?_
 intro w13 hS Qn
 replace Q3 := Qn
 clear Qn
 replace Q1 := hS.other _ _ ne_k1_k3 Q1
 replace Q2 := hS.other _ _ ne_k2_k3 Q2
 replace Q4 := hS.other _ _ ne_k3_k4.symm Q4
 replace Q5 := hS.other _ _ ne_k3_k5.symm Q5
 replace M := hS.mo _ N_k3 M
 clear hS
 refine wl_m (.tmp 62) (.int .i64 e) ?_
 refine w_nil (xn_then (w_ret (xr_then ?_)))
 exact w_ret2 _ _ (.agg #[d0, d1, d2, d3, d4, d5]) (.int .i64 e) rfl ⟨k3, rfl, (run_row Q3 26 0 6 _ rfl Tryz.underlying26 rfl sz40)⟩ rfl ⟨rfl, M⟩
theorem radd_z (u s v t : Int) (w : World) (hu : ab u < MM) (hv : ab v < MM) (hs : sc s = true) (ht : sc t = true) :
  Calls Tryz.prog 64 #[dz u s, dz v t] w fun e w' => e = .returned (fz (addV u s v t) (max s t)) ∧ Mo w w' := by
 obtain ⟨s0, s1⟩ := sc_iff.1 hs
 obtain ⟨t0, t1⟩ := sc_iff.1 ht
 obtain ⟨S, hS⟩ : ∃ S, max s t = S := ⟨_, rfl⟩
 obtain ⟨i, hi⟩ : ∃ i : Nat, S - s = (i : Int) := ⟨(S - s).toNat, by omega⟩
 obtain ⟨j, hj⟩ : ∃ j : Nat, S - t = (j : Int) := ⟨(S - t).toNat, by omega⟩
 unfold addV
 rw [hS, hi, hj, pw_nat, pw_nat]
 have pi : (0 : Int) < 10 ^ i := Int.pow_pos (by decide)
 have pj : (0 : Int) < 10 ^ j := Int.pow_pos (by decide)
 have bX := lifted_bd (ab_nn u) hu (i := i) (by omega)
 have bY := lifted_bd (ab_nn v) hv (i := j) (by omega)
 have bX2 := lifted_sm (ab_nn u) hu (i := i) (by omega)
 have bY2 := lifted_sm (ab_nn v) hv (i := j) (by omega)
 have eX := ab_mul (u := u) pi
 have eY := ab_mul (u := v) pj
 have nX := neg_mul_iff (u := u) pi
 have nY := neg_mul_iff (u := v) pj
 have key : ∀ (b : Bool) (X : Int), X = ab (u * 10 ^ i + v * 10 ^ j) → X < MM * MM → (X ≠ 0 → b = decide (u * 10 ^ i + v * 10 ^ j < 0)) → ∀ w, Calls Tryz.prog 71 #[.bool b, dw X, .int .i64 S] w fun e w' => e = .returned (fz (u * 10 ^ i + v * 10 ^ j) S) ∧ Mo w w' :=
  fun b X h1 h2 h3 w => rat_z b X S _ w h1 h2 h3
 obtain ⟨V, hV⟩ : ∃ V, u * 10 ^ i + v * 10 ^ j = V := ⟨_, rfl⟩
 rw [hV] at key ⊢
 obtain ⟨A, hA⟩ : ∃ A, u * 10 ^ i = A := ⟨_, rfl⟩
 obtain ⟨B, hB⟩ : ∃ B, v * 10 ^ j = B := ⟨_, rfl⟩
 rw [hA, hB] at hV
 rw [hA] at eX nX
 rw [hB] at eY nY
 have go : ∀ (d0 d1 d2 d3 d4 d5 : Value) (e : Int), fz V S = .tuple #[.agg #[d0, d1, d2, d3, d4, d5], .int .i64 e] → [d0, d1, d2, d3, d4, d5].all (·.oneCell') = true →
   Calls Tryz.prog 64 #[dz u s, dz v t] w fun e w' => e = .returned (fz V S) ∧ Mo w w' := by
  intro d0 d1 d2 d3 d4 d5 e he hd
  rw [he] at key ⊢
  have cA := ab_c A
  have cB := ab_c B
  have cV := ab_c V
  by_cases hb : (decide (u < 0) == decide (v < 0)) = true
  ·have bS : ab u * 10 ^ i + ab v * 10 ^ j < MM * MM := by unfold MM at *; omega
   have hab : (A < 0) ↔ (B < 0) := by
    have : decide (A < 0) = decide (B < 0) := by rw [nX, nY]; simpa using hb
    simpa using this
   refine radd_same _ _ _ _ s t S i j d0 d1 d2 d3 d4 d5 e w (ab_nn u) hu (ab_nn v) hv (ck_dz hs) (ck_dz ht) hS hi hj (by omega) (by omega) hb hd (key _ _ ?_ bS ?_)
   ·rw [eX, eY]; omega
   ·intro hne
    rw [eX, eY] at hne
    rw [← nX, decide_eq_decide]; omega
  ·have hb : (decide (u < 0) == decide (v < 0)) = false := by simpa using hb
   have hab : ¬ ((A < 0) ↔ (B < 0)) := by
    intro h
    have : decide (A < 0) = decide (B < 0) := decide_eq_decide.2 h
    rw [nX, nY] at this
    rw [this] at hb; simp at hb
   by_cases hlt : ab A < ab B
   ·have bS : ab v * 10 ^ j - ab u * 10 ^ i < MM * MM := by omega
    have hc : decide (cm (ab u * 10 ^ i) (ab v * 10 ^ j) ≥ 0) = false := by rw [eX, eY]; unfold cm; rw [if_pos hlt]; decide
    refine radd_lt _ _ _ _ s t S i j d0 d1 d2 d3 d4 d5 e w (ab_nn u) hu (ab_nn v) hv (ck_dz hs) (ck_dz ht) hS hi hj (by omega) (by omega) hb hc hd (key _ _ ?_ bS ?_)
    ·rw [eX, eY]; omega
    ·intro _
     rw [← nY, decide_eq_decide]; omega
   ·have bS : ab u * 10 ^ i - ab v * 10 ^ j < MM * MM := by omega
    have hc : decide (cm (ab u * 10 ^ i) (ab v * 10 ^ j) ≥ 0) = true := by
     rw [eX, eY]; unfold cm; rw [if_neg hlt]; split <;> decide
    refine radd_ge _ _ _ _ s t S i j d0 d1 d2 d3 d4 d5 e w (ab_nn u) hu (ab_nn v) hv (ck_dz hs) (ck_dz ht) hS hi hj (by omega) (by omega) hb hc hd (key _ _ ?_ bS ?_)
    ·rw [eX, eY]; omega
    ·intro hne
     rw [eX, eY] at hne
     rw [← nX, decide_eq_decide]; omega
 by_cases hr : ab V < MM
 ·exact go _ _ _ _ _ _ _ (by unfold fz; rw [if_pos hr]) (one6 _ _ _)
 ·exact go _ _ _ _ _ _ _ (by unfold fz; rw [if_neg hr]) rfl
theorem rsub_w (b c : Bool) (n m s t : Int) (d0 d1 d2 d3 d4 d5 : Value) (e : Int) (w : World) (hn0 : 0 ≤ n) (hn : n < MM) (hm0 : 0 ≤ m) (hm : m < MM) (h1 : ck b n s = 0) (h2 : ck c m t = 0) (hd : [d0, d1, d2, d3, d4, d5].all (·.oneCell') = true)
  (hadd : ∀ w, Calls Tryz.prog 64 #[dc b n s, dc (!c && !decide (m = 0)) m t] w fun e' w' => e' = .returned (.tuple #[.agg #[d0, d1, d2, d3, d4, d5], .int .i64 e]) ∧ Mo w w') :
  Calls Tryz.prog 65 #[dc b n s, dc c m t] w fun e' w' => e' = .returned (.tuple #[.agg #[d0, d1, d2, d3, d4, d5], .int .i64 e]) ∧ Mo w w' := by
 refine w_enter 26 Tryz.func65 Tryz.ntmps65 rfl rfl ?_
 have M : Mo w w := Mo.refl _
 refine w_seq (w_reg ?_)
 refine wl_box 26 (.tmp 0) (dc b (n) (s)) ((dcr b (n) (s))) rfl rfl (fun _ => by kernel_rfl) rfl ?_
 intro k1 w1 hk hz hq Q1
 have N_k1 : w.heap.size ≤ k1 := by have := M.size; omega
 replace M := M.trans hq
 clear hk hz hq
 refine wl_box 26 (.tmp 1) (dc c (m) (t)) ((dcr c (m) (t))) rfl rfl (fun _ => by kernel_rfl) rfl ?_
 intro k2 w2 hk hz hq Q2
 have ne_k1_k2 : k1 ≠ k2 := by have := Q1.lt; omega
 have N_k2 : w.heap.size ≤ k2 := by have := M.size; omega
 replace Q1 := Q1.mo hq
 replace M := M.trans hq
 clear hk hz hq
 refine wl_alloc 26 #[.bool false, .int .u64 0, .int .u64 0, .int .u64 0, .int .u64 0, .int .i64 0] rfl (fun _ => by kernel_rfl) rfl ?_
 intro k3 w3 hk hz hq Q3
 have ne_k1_k3 : k1 ≠ k3 := by have := Q1.lt; omega
 have ne_k2_k3 : k2 ≠ k3 := by have := Q2.lt; omega
 have N_k3 : w.heap.size ≤ k3 := by have := M.size; omega
 replace Q1 := Q1.mo hq
 replace Q2 := Q2.mo hq
 replace M := M.trans hq
 clear hk hz hq
 refine wl_m (.const (.int .i64 (0))) (.int .i64 (0)) ?_
 refine w_nil (xn_then (w_seq (w_seq (w_reg ?_))))
 refine wl_l 26 (.tmp 2) (pt k1 0) (dc b (n) (s)) (run_row Q1 26 0 6 (dcl b (n) (s)) rfl Tryz.underlying26 rfl sz40) ?_
 refine wl_l 26 (.tmp 3) (pt k2 0) (dc c (m) (t)) (run_row Q2 26 0 6 (dcl c (m) (t)) rfl Tryz.underlying26 rfl sz40) ?_
 refine wl_call 96 [(.tmp 9), (.tmp 10)] _ [dc b (n) (s), dc c (m) (t)] (.int .i64 (0)) rfl rfl (fun _ _ => by kernel_rfl) (rboth_ok b n s c m t _ hn0 hn hm0 hm h1 h2) rfl ?_
 intro w4 hq
 replace Q1 := Q1.mo hq
 replace Q2 := Q2.mo hq
 replace Q3 := Q3.mo hq
 replace M := M.trans hq
 clear hq
 refine wl_m (.tmp 11) (.int .i64 (0)) ?_
 refine w_nil (xn_then (w_seq (w_reg ?_)))
 refine wl_m (.tmp 6) (.int .i64 (0)) ?_
 refine wl_b .neq 32 (.tmp 12) (.const (.int .i64 (0))) (.int .i64 (0)) (.int .i64 (0)) (.bool false) (by kernel_rfl) ?_
 refine w_nil (xn_then (w_condF rfl (w_skip (xn_then (w_seq (w_reg ?_))))))
 refine wl_l 26 (.tmp 3) (pt k2 0) (dc c (m) (t)) (run_row Q2 26 0 6 (dcl c (m) (t)) rfl Tryz.underlying26 rfl sz40) ?_
 refine wl_call 49 [(.tmp 17)] _ [dc c (m) (t)] (.tuple #[dc (!c && !decide (m = 0)) (m) (t), .int .i64 (0)]) rfl rfl (fun _ _ => by kernel_rfl) (rneg_ok c m t _ hm0 hm h2) rfl ?_
 intro w5 hq
 replace Q1 := Q1.mo hq
 replace Q2 := Q2.mo hq
 replace Q3 := Q3.mo hq
 replace M := M.trans hq
 clear hq
 refine wl_m (.tmp 18) (.tuple #[dc (!c && !decide (m = 0)) (m) (t), .int .i64 (0)]) ?_
 refine wl_un (fun v => Instr.extract v 0) (.tmp 16) (.tuple #[dc (!c && !decide (m = 0)) (m) (t), .int .i64 (0)]) (dc (!c && !decide (m = 0)) (m) (t)) (fun _ => rfl) rfl (by kernel_rfl) rfl ?_
 refine wl_un (fun v => Instr.extract v 1) (.tmp 16) (.tuple #[dc (!c && !decide (m = 0)) (m) (t), .int .i64 (0)]) (.int .i64 (0)) (fun _ => rfl) rfl (by kernel_rfl) rfl ?_
 refine wl_alloc 26 #[.bool false, .int .u64 0, .int .u64 0, .int .u64 0, .int .u64 0, .int .i64 0] rfl (fun _ => by kernel_rfl) rfl ?_
 intro k4 w6 hk hz hq Q4
 have ne_k1_k4 : k1 ≠ k4 := by have := Q1.lt; omega
 have ne_k2_k4 : k2 ≠ k4 := by have := Q2.lt; omega
 have ne_k3_k4 : k3 ≠ k4 := by have := Q3.lt; omega
 have N_k4 : w.heap.size ≤ k4 := by have := M.size; omega
 replace Q1 := Q1.mo hq
 replace Q2 := Q2.mo hq
 replace Q3 := Q3.mo hq
 replace M := M.trans hq
 clear hk hz hq
 refine wl_st 26 (.tmp 7) (.tmp 19) k4 0 (dcr (!c && !decide (m = 0)) (m) (t)) _ (dcl (!c && !decide (m = 0)) (m) (t)) Q4 rfl rfl rfl rfl rfl sz40 rfl rfl rfl ?_
 intro w7 hS Qn
 replace Q4 := Qn
 clear Qn
 replace Q1 := hS.other _ _ ne_k1_k4 Q1
 replace Q2 := hS.other _ _ ne_k2_k4 Q2
 replace Q3 := hS.other _ _ ne_k3_k4 Q3
 replace M := hS.mo _ N_k4 M
 clear hS
 refine wl_m (.tmp 20) (.int .i64 (0)) ?_
 refine w_nil (xn_then (w_seq (w_reg ?_)))
 refine wl_l 26 (.tmp 2) (pt k1 0) (dc b (n) (s)) (run_row Q1 26 0 6 (dcl b (n) (s)) rfl Tryz.underlying26 rfl sz40) ?_
 refine wl_l 26 (.tmp 7) (pt k4 0) (dc (!c && !decide (m = 0)) (m) (t)) (run_row Q4 26 0 6 (dcl (!c && !decide (m = 0)) (m) (t)) rfl Tryz.underlying26 rfl sz40) ?_
 refine wl_call 64 [(.tmp 21), (.tmp 22)] _ [dc b (n) (s), dc (!c && !decide (m = 0)) (m) (t)] (.tuple #[.agg #[d0, d1, d2, d3, d4, d5], .int .i64 e]) rfl rfl (fun _ _ => by kernel_rfl) (hadd _) rfl ?_
 intro w8 hq
 replace Q1 := Q1.mo hq
 replace Q2 := Q2.mo hq
 replace Q3 := Q3.mo hq
 replace Q4 := Q4.mo hq
 replace M := M.trans hq
 clear hq
 refine wl_un (fun v => Instr.extract v 0) (.tmp 23) (.tuple #[.agg #[d0, d1, d2, d3, d4, d5], .int .i64 e]) (.agg #[d0, d1, d2, d3, d4, d5]) (fun _ => rfl) rfl (by kernel_rfl) rfl ?_
 refine wl_un (fun v => Instr.extract v 1) (.tmp 23) (.tuple #[.agg #[d0, d1, d2, d3, d4, d5], .int .i64 e]) (.int .i64 e) (fun _ => rfl) rfl (by kernel_rfl) rfl ?_
 refine wl_st 26 (.tmp 4) (.tmp 24) k3 0 #[d0, d1, d2, d3, d4, d5] _ [d0, d1, d2, d3, d4, d5] Q3 rfl rfl rfl rfl rfl sz40 hd rfl rfl ?_
 intro w9 hS Qn
 replace Q3 := Qn
 clear Qn
 replace Q1 := hS.other _ _ ne_k1_k3 Q1
 replace Q2 := hS.other _ _ ne_k2_k3 Q2
 replace Q4 := hS.other _ _ ne_k3_k4.symm Q4
 replace M := hS.mo _ N_k3 M
 clear hS
 refine wl_m (.tmp 25) (.int .i64 e) ?_
 refine w_nil (xn_then (w_ret ?_))
 exact w_ret2 _ _ (.agg #[d0, d1, d2, d3, d4, d5]) (.int .i64 e) rfl ⟨k3, rfl, (run_row Q3 26 0 6 _ rfl Tryz.underlying26 rfl sz40)⟩ rfl ⟨rfl, M⟩
theorem rsub_z (u s v t : Int) (w : World) (hu : ab u < MM) (hv : ab v < MM) (hs : sc s = true) (ht : sc t = true) :
  Calls Tryz.prog 65 #[dz u s, dz v t] w fun e w' => e = .returned (fz (addV u s (-v) t) (max s t)) ∧ Mo w w' := by
 have ha := fun w => radd_z u s (-v) t w hu (by rw [ab_neg]; exact hv) hs ht
 rw [← dz_neg] at ha
 by_cases h : ab (addV u s (-v) t) < MM
 ·rw [fz_yes h] at ha ⊢
  exact rsub_w _ _ _ _ s t _ _ _ _ _ _ _ w (ab_nn u) hu (ab_nn v) hv (ck_dz hs) (ck_dz ht) (one6 _ _ _) ha
 ·rw [fz_no h] at ha ⊢
  exact rsub_w _ _ _ _ s t _ _ _ _ _ _ _ w (ab_nn u) hu (ab_nn v) hv (ck_dz hs) (ck_dz ht) rfl ha
theorem rcmpd_tf (n m s t S : Int) (i j : Nat) (w : World) (hn0 : 0 ≤ n) (hn : n < MM) (hm0 : 0 ≤ m) (hm : m < MM) (h1 : ck true n s = 0) (h2 : ck false m t = 0) (hS : max s t = S) (hi : S - s = (i : Int)) (hj : S - t = (j : Int)) (hi7 : i ≤ 18) (hj7 : j ≤ 18) :
  Calls Tryz.prog 67 #[dc true n s, dc false m t] w fun e' w' => e' = .returned (.int .i64 (-1)) ∧ Mo w w' := by
 refine w_enter 56 Tryz.func67 Tryz.ntmps67 rfl rfl ?_
 have M : Mo w w := Mo.refl _
 refine w_seq (w_reg ?_)
 refine wl_box 26 (.tmp 0) (dc true (n) (s)) ((dcr true (n) (s))) rfl rfl (fun _ => by kernel_rfl) rfl ?_
 intro k1 w1 hk hz hq Q1
 have N_k1 : w.heap.size ≤ k1 := by have := M.size; omega
 replace M := M.trans hq
 clear hk hz hq
 refine wl_box 26 (.tmp 1) (dc false (m) (t)) ((dcr false (m) (t))) rfl rfl (fun _ => by kernel_rfl) rfl ?_
 intro k2 w2 hk hz hq Q2
 have ne_k1_k2 : k1 ≠ k2 := by have := Q1.lt; omega
 have N_k2 : w.heap.size ≤ k2 := by have := M.size; omega
 replace Q1 := Q1.mo hq
 replace M := M.trans hq
 clear hk hz hq
 refine wl_m (.const (.int .i64 (0))) (.int .i64 (0)) ?_
 refine w_nil (xn_then (w_seq (w_seq (w_reg ?_))))
 refine wl_l 26 (.tmp 2) (pt k1 0) (dc true (n) (s)) (run_row Q1 26 0 6 (dcl true (n) (s)) rfl Tryz.underlying26 rfl sz40) ?_
 refine wl_l 26 (.tmp 3) (pt k2 0) (dc false (m) (t)) (run_row Q2 26 0 6 (dcl false (m) (t)) rfl Tryz.underlying26 rfl sz40) ?_
 refine wl_call 96 [(.tmp 8), (.tmp 9)] _ [dc true (n) (s), dc false (m) (t)] (.int .i64 (0)) rfl rfl (fun _ _ => by kernel_rfl) (rboth_ok true n s false m t _ hn0 hn hm0 hm h1 h2) rfl ?_
 intro w3 hq
 replace Q1 := Q1.mo hq
 replace Q2 := Q2.mo hq
 replace M := M.trans hq
 clear hq
 refine wl_b .neq 32 (.tmp 10) (.const (.int .i64 (0))) (.int .i64 (0)) (.int .i64 (0)) (.bool false) (by kernel_rfl) ?_
 refine w_nil (xn_then (w_condF rfl (w_skip (xn_then (w_seq (w_reg ?_))))))
 refine wl_f 26 2 (.tmp 2) (pt k1 0) (pt k1 5) ?_
 refine wl_l 3 (.tmp 12) (pt k1 5) (.int .i64 (s)) (run_one Q1 3 5 rfl Tryz.underlying3 rfl) ?_
 refine wl_f 26 2 (.tmp 3) (pt k2 0) (pt k2 5) ?_
 refine wl_l 3 (.tmp 14) (pt k2 5) (.int .i64 (t)) (run_one Q2 3 5 rfl Tryz.underlying3 rfl) ?_
 refine wl_val (.int .i64 (S)) (by rw [← hS]; exact max_run _ _ _ _ _ rfl rfl _ _ _ _ _ _) rfl ?_
 refine wl_m (.tmp 16) (.int .i64 (S)) ?_
 refine w_nil (xn_then (w_seq (w_reg ?_)))
 refine wl_f 26 1 (.tmp 2) (pt k1 0) (pt k1 1) ?_
 refine wl_l 24 (.tmp 17) (pt k1 1) (.agg #[.int .u64 (l0 (n)), .int .u64 (l1 (n)), .int .u64 (l2 (n)), .int .u64 (l3 (n))]) (run_row Q1 24 1 4 _ rfl Tryz.underlying24 rfl sz24) ?_
 refine wl_m (.tmp 5) (.int .i64 (S)) ?_
 refine wl_f 26 2 (.tmp 2) (pt k1 0) (pt k1 5) ?_
 refine wl_l 3 (.tmp 20) (pt k1 5) (.int .i64 (s)) (run_one Q1 3 5 rfl Tryz.underlying3 rfl) ?_
 refine wl_b .sub 3 (.tmp 19) (.tmp 21) (.int .i64 (S)) (.int .i64 (s)) (.int .i64 ((i : Int))) (sub3_run hi (by omega) (by omega) _ _ _) ?_
 refine wl_call 97 [(.tmp 18), (.tmp 22)] _ [.agg #[.int .u64 (l0 (n)), .int .u64 (l1 (n)), .int .u64 (l2 (n)), .int .u64 (l3 (n))], .int .i64 ((i : Int))] (dw (n * 10 ^ i)) rfl rfl (fun _ _ => by kernel_rfl) (shift_n n i _ hn0 hn (by omega)) rfl ?_
 intro w4 hq
 replace Q1 := Q1.mo hq
 replace Q2 := Q2.mo hq
 replace M := M.trans hq
 clear hq
 refine wl_alloc 74 #[.int .u64 0, .int .u64 0, .int .u64 0, .int .u64 0, .int .u64 0, .int .u64 0, .int .u64 0, .int .u64 0] rfl (fun _ => by kernel_rfl) rfl ?_
 intro k3 w5 hk hz hq Q3
 have ne_k1_k3 : k1 ≠ k3 := by have := Q1.lt; omega
 have ne_k2_k3 : k2 ≠ k3 := by have := Q2.lt; omega
 have N_k3 : w.heap.size ≤ k3 := by have := M.size; omega
 replace Q1 := Q1.mo hq
 replace Q2 := Q2.mo hq
 replace M := M.trans hq
 clear hk hz hq
 refine wl_st 74 (.tmp 6) (.tmp 23) k3 0 (dwr (n * 10 ^ i)) _ (dwl (n * 10 ^ i)) Q3 rfl rfl rfl rfl rfl sz87 rfl rfl rfl ?_
 intro w6 hS Qn
 replace Q3 := Qn
 clear Qn
 replace Q1 := hS.other _ _ ne_k1_k3 Q1
 replace Q2 := hS.other _ _ ne_k2_k3 Q2
 replace M := hS.mo _ N_k3 M
 clear hS
 refine w_nil (xn_then (w_seq (w_reg ?_)))
 refine wl_f 26 1 (.tmp 3) (pt k2 0) (pt k2 1) ?_
 refine wl_l 24 (.tmp 24) (pt k2 1) (.agg #[.int .u64 (l0 (m)), .int .u64 (l1 (m)), .int .u64 (l2 (m)), .int .u64 (l3 (m))]) (run_row Q2 24 1 4 _ rfl Tryz.underlying24 rfl sz24) ?_
 refine wl_m (.tmp 5) (.int .i64 (S)) ?_
 refine wl_f 26 2 (.tmp 3) (pt k2 0) (pt k2 5) ?_
 refine wl_l 3 (.tmp 27) (pt k2 5) (.int .i64 (t)) (run_one Q2 3 5 rfl Tryz.underlying3 rfl) ?_
 refine wl_b .sub 3 (.tmp 26) (.tmp 28) (.int .i64 (S)) (.int .i64 (t)) (.int .i64 ((j : Int))) (sub3_run hj (by omega) (by omega) _ _ _) ?_
 refine wl_call 97 [(.tmp 25), (.tmp 29)] _ [.agg #[.int .u64 (l0 (m)), .int .u64 (l1 (m)), .int .u64 (l2 (m)), .int .u64 (l3 (m))], .int .i64 ((j : Int))] (dw (m * 10 ^ j)) rfl rfl (fun _ _ => by kernel_rfl) (shift_n m j _ hm0 hm (by omega)) rfl ?_
 intro w7 hq
 replace Q1 := Q1.mo hq
 replace Q2 := Q2.mo hq
 replace Q3 := Q3.mo hq
 replace M := M.trans hq
 clear hq
 refine wl_alloc 74 #[.int .u64 0, .int .u64 0, .int .u64 0, .int .u64 0, .int .u64 0, .int .u64 0, .int .u64 0, .int .u64 0] rfl (fun _ => by kernel_rfl) rfl ?_
 intro k4 w8 hk hz hq Q4
 have ne_k1_k4 : k1 ≠ k4 := by have := Q1.lt; omega
 have ne_k2_k4 : k2 ≠ k4 := by have := Q2.lt; omega
 have ne_k3_k4 : k3 ≠ k4 := by have := Q3.lt; omega
 have N_k4 : w.heap.size ≤ k4 := by have := M.size; omega
 replace Q1 := Q1.mo hq
 replace Q2 := Q2.mo hq
 replace Q3 := Q3.mo hq
 replace M := M.trans hq
 clear hk hz hq
 refine wl_st 74 (.tmp 7) (.tmp 30) k4 0 (dwr (m * 10 ^ j)) _ (dwl (m * 10 ^ j)) Q4 rfl rfl rfl rfl rfl sz87 rfl rfl rfl ?_
 intro w9 hS Qn
 replace Q4 := Qn
 clear Qn
 replace Q1 := hS.other _ _ ne_k1_k4 Q1
 replace Q2 := hS.other _ _ ne_k2_k4 Q2
 replace Q3 := hS.other _ _ ne_k3_k4 Q3
 replace M := hS.mo _ N_k4 M
 clear hS
 refine w_nil (xn_then (w_seq (w_block (w_seq (w_reg ?_)))))
 refine wl_f 26 0 (.tmp 2) (pt k1 0) (pt k1 0) ?_
 refine wl_l 4 (.tmp 32) (pt k1 0) (.bool true) (run_one Q1 4 0 rfl Tryz.underlying4 rfl) ?_
 refine wl_m (.tmp 33) (.bool true) ?_
 refine wl_f 26 0 (.tmp 3) (pt k2 0) (pt k2 0) ?_
 refine wl_l 4 (.tmp 35) (pt k2 0) (.bool false) (run_one Q2 4 0 rfl Tryz.underlying4 rfl) ?_
 refine wl_un (fun v => Op.unary .not v) (.tmp 36) (.bool false) (.bool true) (fun _ => rfl) rfl (by kernel_rfl) rfl ?_
 refine wl_pick (.tmp 34) (.tmp 37) (.const (.bool false)) true (.bool true) (fun _ => rfl) rfl rfl rfl ?_
 refine wl_m (.tmp 38) (.bool true) ?_
 refine w_nil (xn_then (w_condT rfl (w_seq (w_reg ?_))))
 refine wl_m (.const (.int .i64 (-1))) (.int .i64 (-1)) ?_
 refine w_nil (xn_then (w_ret (xr_blk (xr_then ?_))))
 exact w_ret1 _ _ rfl rfl ⟨rfl, M⟩
theorem rcmpd_ft (n m s t S : Int) (i j : Nat) (w : World) (hn0 : 0 ≤ n) (hn : n < MM) (hm0 : 0 ≤ m) (hm : m < MM) (h1 : ck false n s = 0) (h2 : ck true m t = 0) (hS : max s t = S) (hi : S - s = (i : Int)) (hj : S - t = (j : Int)) (hi7 : i ≤ 18) (hj7 : j ≤ 18) :
  Calls Tryz.prog 67 #[dc false n s, dc true m t] w fun e' w' => e' = .returned (.int .i64 (1)) ∧ Mo w w' := by
 refine w_enter 56 Tryz.func67 Tryz.ntmps67 rfl rfl ?_
 have M : Mo w w := Mo.refl _
 refine w_seq (w_reg ?_)
 refine wl_box 26 (.tmp 0) (dc false (n) (s)) ((dcr false (n) (s))) rfl rfl (fun _ => by kernel_rfl) rfl ?_
 intro k1 w1 hk hz hq Q1
 have N_k1 : w.heap.size ≤ k1 := by have := M.size; omega
 replace M := M.trans hq
 clear hk hz hq
 refine wl_box 26 (.tmp 1) (dc true (m) (t)) ((dcr true (m) (t))) rfl rfl (fun _ => by kernel_rfl) rfl ?_
 intro k2 w2 hk hz hq Q2
 have ne_k1_k2 : k1 ≠ k2 := by have := Q1.lt; omega
 have N_k2 : w.heap.size ≤ k2 := by have := M.size; omega
 replace Q1 := Q1.mo hq
 replace M := M.trans hq
 clear hk hz hq
 refine wl_m (.const (.int .i64 (0))) (.int .i64 (0)) ?_
 refine w_nil (xn_then (w_seq (w_seq (w_reg ?_))))
 refine wl_l 26 (.tmp 2) (pt k1 0) (dc false (n) (s)) (run_row Q1 26 0 6 (dcl false (n) (s)) rfl Tryz.underlying26 rfl sz40) ?_
 refine wl_l 26 (.tmp 3) (pt k2 0) (dc true (m) (t)) (run_row Q2 26 0 6 (dcl true (m) (t)) rfl Tryz.underlying26 rfl sz40) ?_
 refine wl_call 96 [(.tmp 8), (.tmp 9)] _ [dc false (n) (s), dc true (m) (t)] (.int .i64 (0)) rfl rfl (fun _ _ => by kernel_rfl) (rboth_ok false n s true m t _ hn0 hn hm0 hm h1 h2) rfl ?_
 intro w3 hq
 replace Q1 := Q1.mo hq
 replace Q2 := Q2.mo hq
 replace M := M.trans hq
 clear hq
 refine wl_b .neq 32 (.tmp 10) (.const (.int .i64 (0))) (.int .i64 (0)) (.int .i64 (0)) (.bool false) (by kernel_rfl) ?_
 refine w_nil (xn_then (w_condF rfl (w_skip (xn_then (w_seq (w_reg ?_))))))
 refine wl_f 26 2 (.tmp 2) (pt k1 0) (pt k1 5) ?_
 refine wl_l 3 (.tmp 12) (pt k1 5) (.int .i64 (s)) (run_one Q1 3 5 rfl Tryz.underlying3 rfl) ?_
 refine wl_f 26 2 (.tmp 3) (pt k2 0) (pt k2 5) ?_
 refine wl_l 3 (.tmp 14) (pt k2 5) (.int .i64 (t)) (run_one Q2 3 5 rfl Tryz.underlying3 rfl) ?_
 refine wl_val (.int .i64 (S)) (by rw [← hS]; exact max_run _ _ _ _ _ rfl rfl _ _ _ _ _ _) rfl ?_
 refine wl_m (.tmp 16) (.int .i64 (S)) ?_
 refine w_nil (xn_then (w_seq (w_reg ?_)))
 refine wl_f 26 1 (.tmp 2) (pt k1 0) (pt k1 1) ?_
 refine wl_l 24 (.tmp 17) (pt k1 1) (.agg #[.int .u64 (l0 (n)), .int .u64 (l1 (n)), .int .u64 (l2 (n)), .int .u64 (l3 (n))]) (run_row Q1 24 1 4 _ rfl Tryz.underlying24 rfl sz24) ?_
 refine wl_m (.tmp 5) (.int .i64 (S)) ?_
 refine wl_f 26 2 (.tmp 2) (pt k1 0) (pt k1 5) ?_
 refine wl_l 3 (.tmp 20) (pt k1 5) (.int .i64 (s)) (run_one Q1 3 5 rfl Tryz.underlying3 rfl) ?_
 refine wl_b .sub 3 (.tmp 19) (.tmp 21) (.int .i64 (S)) (.int .i64 (s)) (.int .i64 ((i : Int))) (sub3_run hi (by omega) (by omega) _ _ _) ?_
 refine wl_call 97 [(.tmp 18), (.tmp 22)] _ [.agg #[.int .u64 (l0 (n)), .int .u64 (l1 (n)), .int .u64 (l2 (n)), .int .u64 (l3 (n))], .int .i64 ((i : Int))] (dw (n * 10 ^ i)) rfl rfl (fun _ _ => by kernel_rfl) (shift_n n i _ hn0 hn (by omega)) rfl ?_
 intro w4 hq
 replace Q1 := Q1.mo hq
 replace Q2 := Q2.mo hq
 replace M := M.trans hq
 clear hq
 refine wl_alloc 74 #[.int .u64 0, .int .u64 0, .int .u64 0, .int .u64 0, .int .u64 0, .int .u64 0, .int .u64 0, .int .u64 0] rfl (fun _ => by kernel_rfl) rfl ?_
 intro k3 w5 hk hz hq Q3
 have ne_k1_k3 : k1 ≠ k3 := by have := Q1.lt; omega
 have ne_k2_k3 : k2 ≠ k3 := by have := Q2.lt; omega
 have N_k3 : w.heap.size ≤ k3 := by have := M.size; omega
 replace Q1 := Q1.mo hq
 replace Q2 := Q2.mo hq
 replace M := M.trans hq
 clear hk hz hq
 refine wl_st 74 (.tmp 6) (.tmp 23) k3 0 (dwr (n * 10 ^ i)) _ (dwl (n * 10 ^ i)) Q3 rfl rfl rfl rfl rfl sz87 rfl rfl rfl ?_
 intro w6 hS Qn
 replace Q3 := Qn
 clear Qn
 replace Q1 := hS.other _ _ ne_k1_k3 Q1
 replace Q2 := hS.other _ _ ne_k2_k3 Q2
 replace M := hS.mo _ N_k3 M
 clear hS
 refine w_nil (xn_then (w_seq (w_reg ?_)))
 refine wl_f 26 1 (.tmp 3) (pt k2 0) (pt k2 1) ?_
 refine wl_l 24 (.tmp 24) (pt k2 1) (.agg #[.int .u64 (l0 (m)), .int .u64 (l1 (m)), .int .u64 (l2 (m)), .int .u64 (l3 (m))]) (run_row Q2 24 1 4 _ rfl Tryz.underlying24 rfl sz24) ?_
 refine wl_m (.tmp 5) (.int .i64 (S)) ?_
 refine wl_f 26 2 (.tmp 3) (pt k2 0) (pt k2 5) ?_
 refine wl_l 3 (.tmp 27) (pt k2 5) (.int .i64 (t)) (run_one Q2 3 5 rfl Tryz.underlying3 rfl) ?_
 refine wl_b .sub 3 (.tmp 26) (.tmp 28) (.int .i64 (S)) (.int .i64 (t)) (.int .i64 ((j : Int))) (sub3_run hj (by omega) (by omega) _ _ _) ?_
 refine wl_call 97 [(.tmp 25), (.tmp 29)] _ [.agg #[.int .u64 (l0 (m)), .int .u64 (l1 (m)), .int .u64 (l2 (m)), .int .u64 (l3 (m))], .int .i64 ((j : Int))] (dw (m * 10 ^ j)) rfl rfl (fun _ _ => by kernel_rfl) (shift_n m j _ hm0 hm (by omega)) rfl ?_
 intro w7 hq
 replace Q1 := Q1.mo hq
 replace Q2 := Q2.mo hq
 replace Q3 := Q3.mo hq
 replace M := M.trans hq
 clear hq
 refine wl_alloc 74 #[.int .u64 0, .int .u64 0, .int .u64 0, .int .u64 0, .int .u64 0, .int .u64 0, .int .u64 0, .int .u64 0] rfl (fun _ => by kernel_rfl) rfl ?_
 intro k4 w8 hk hz hq Q4
 have ne_k1_k4 : k1 ≠ k4 := by have := Q1.lt; omega
 have ne_k2_k4 : k2 ≠ k4 := by have := Q2.lt; omega
 have ne_k3_k4 : k3 ≠ k4 := by have := Q3.lt; omega
 have N_k4 : w.heap.size ≤ k4 := by have := M.size; omega
 replace Q1 := Q1.mo hq
 replace Q2 := Q2.mo hq
 replace Q3 := Q3.mo hq
 replace M := M.trans hq
 clear hk hz hq
 refine wl_st 74 (.tmp 7) (.tmp 30) k4 0 (dwr (m * 10 ^ j)) _ (dwl (m * 10 ^ j)) Q4 rfl rfl rfl rfl rfl sz87 rfl rfl rfl ?_
 intro w9 hS Qn
 replace Q4 := Qn
 clear Qn
 replace Q1 := hS.other _ _ ne_k1_k4 Q1
 replace Q2 := hS.other _ _ ne_k2_k4 Q2
 replace Q3 := hS.other _ _ ne_k3_k4 Q3
 replace M := hS.mo _ N_k4 M
 clear hS
 refine w_nil (xn_then (w_seq (w_block (w_seq (w_reg ?_)))))
 refine wl_f 26 0 (.tmp 2) (pt k1 0) (pt k1 0) ?_
 refine wl_l 4 (.tmp 32) (pt k1 0) (.bool false) (run_one Q1 4 0 rfl Tryz.underlying4 rfl) ?_
 refine wl_m (.tmp 33) (.bool false) ?_
 refine wl_skip rfl (wl_skip rfl (wl_skip rfl ?_))
 refine wl_pick (.tmp 34) (.tmp 37) (.const (.bool false)) false (.bool false) (fun _ => rfl) rfl rfl rfl ?_
 refine wl_m (.tmp 38) (.bool false) ?_
 refine w_nil (xn_then (w_condF rfl (w_seq (w_reg ?_))))
 refine wl_f 26 0 (.tmp 2) (pt k1 0) (pt k1 0) ?_
 refine wl_l 4 (.tmp 40) (pt k1 0) (.bool false) (run_one Q1 4 0 rfl Tryz.underlying4 rfl) ?_
 refine wl_un (fun v => Op.unary .not v) (.tmp 41) (.bool false) (.bool true) (fun _ => rfl) rfl (by kernel_rfl) rfl ?_
 refine wl_m (.tmp 42) (.bool true) ?_
 refine wl_f 26 0 (.tmp 3) (pt k2 0) (pt k2 0) ?_
 refine wl_l 4 (.tmp 44) (pt k2 0) (.bool true) (run_one Q2 4 0 rfl Tryz.underlying4 rfl) ?_
 refine wl_pick (.tmp 43) (.tmp 45) (.const (.bool false)) true (.bool true) (fun _ => rfl) rfl rfl rfl ?_
 refine wl_m (.tmp 46) (.bool true) ?_
 refine w_nil (xn_then (w_condT rfl (w_seq (w_reg ?_))))
 refine wl_m (.const (.int .i64 (1))) (.int .i64 (1)) ?_
 refine w_nil (xn_then (w_ret (xr_blk (xr_then ?_))))
 exact w_ret1 _ _ rfl rfl ⟨rfl, M⟩
theorem rcmpd_tt (n m s t S : Int) (i j : Nat) (w : World) (hn0 : 0 ≤ n) (hn : n < MM) (hm0 : 0 ≤ m) (hm : m < MM) (h1 : ck true n s = 0) (h2 : ck true m t = 0) (hS : max s t = S) (hi : S - s = (i : Int)) (hj : S - t = (j : Int)) (hi7 : i ≤ 18) (hj7 : j ≤ 18) :
  Calls Tryz.prog 67 #[dc true n s, dc true m t] w fun e' w' => e' = .returned (.int .i64 (cm (m * 10 ^ j) (n * 10 ^ i))) ∧ Mo w w' := by
 have bX := lifted_bd hn0 hn (i := i) (by omega)
 have bY := lifted_bd hm0 hm (i := j) (by omega)
 refine w_enter 56 Tryz.func67 Tryz.ntmps67 rfl rfl ?_
 have M : Mo w w := Mo.refl _
 refine w_seq (w_reg ?_)
 refine wl_box 26 (.tmp 0) (dc true (n) (s)) ((dcr true (n) (s))) rfl rfl (fun _ => by kernel_rfl) rfl ?_
 intro k1 w1 hk hz hq Q1
 have N_k1 : w.heap.size ≤ k1 := by have := M.size; omega
 replace M := M.trans hq
 clear hk hz hq
 refine wl_box 26 (.tmp 1) (dc true (m) (t)) ((dcr true (m) (t))) rfl rfl (fun _ => by kernel_rfl) rfl ?_
 intro k2 w2 hk hz hq Q2
 have ne_k1_k2 : k1 ≠ k2 := by have := Q1.lt; omega
 have N_k2 : w.heap.size ≤ k2 := by have := M.size; omega
 replace Q1 := Q1.mo hq
 replace M := M.trans hq
 clear hk hz hq
 refine wl_m (.const (.int .i64 (0))) (.int .i64 (0)) ?_
 refine w_nil (xn_then (w_seq (w_seq (w_reg ?_))))
 refine wl_l 26 (.tmp 2) (pt k1 0) (dc true (n) (s)) (run_row Q1 26 0 6 (dcl true (n) (s)) rfl Tryz.underlying26 rfl sz40) ?_
 refine wl_l 26 (.tmp 3) (pt k2 0) (dc true (m) (t)) (run_row Q2 26 0 6 (dcl true (m) (t)) rfl Tryz.underlying26 rfl sz40) ?_
 refine wl_call 96 [(.tmp 8), (.tmp 9)] _ [dc true (n) (s), dc true (m) (t)] (.int .i64 (0)) rfl rfl (fun _ _ => by kernel_rfl) (rboth_ok true n s true m t _ hn0 hn hm0 hm h1 h2) rfl ?_
 intro w3 hq
 replace Q1 := Q1.mo hq
 replace Q2 := Q2.mo hq
 replace M := M.trans hq
 clear hq
 refine wl_b .neq 32 (.tmp 10) (.const (.int .i64 (0))) (.int .i64 (0)) (.int .i64 (0)) (.bool false) (by kernel_rfl) ?_
 refine w_nil (xn_then (w_condF rfl (w_skip (xn_then (w_seq (w_reg ?_))))))
 refine wl_f 26 2 (.tmp 2) (pt k1 0) (pt k1 5) ?_
 refine wl_l 3 (.tmp 12) (pt k1 5) (.int .i64 (s)) (run_one Q1 3 5 rfl Tryz.underlying3 rfl) ?_
 refine wl_f 26 2 (.tmp 3) (pt k2 0) (pt k2 5) ?_
 refine wl_l 3 (.tmp 14) (pt k2 5) (.int .i64 (t)) (run_one Q2 3 5 rfl Tryz.underlying3 rfl) ?_
 refine wl_val (.int .i64 (S)) (by rw [← hS]; exact max_run _ _ _ _ _ rfl rfl _ _ _ _ _ _) rfl ?_
 refine wl_m (.tmp 16) (.int .i64 (S)) ?_
 refine w_nil (xn_then (w_seq (w_reg ?_)))
 refine wl_f 26 1 (.tmp 2) (pt k1 0) (pt k1 1) ?_
 refine wl_l 24 (.tmp 17) (pt k1 1) (.agg #[.int .u64 (l0 (n)), .int .u64 (l1 (n)), .int .u64 (l2 (n)), .int .u64 (l3 (n))]) (run_row Q1 24 1 4 _ rfl Tryz.underlying24 rfl sz24) ?_
 refine wl_m (.tmp 5) (.int .i64 (S)) ?_
 refine wl_f 26 2 (.tmp 2) (pt k1 0) (pt k1 5) ?_
 refine wl_l 3 (.tmp 20) (pt k1 5) (.int .i64 (s)) (run_one Q1 3 5 rfl Tryz.underlying3 rfl) ?_
 refine wl_b .sub 3 (.tmp 19) (.tmp 21) (.int .i64 (S)) (.int .i64 (s)) (.int .i64 ((i : Int))) (sub3_run hi (by omega) (by omega) _ _ _) ?_
 refine wl_call 97 [(.tmp 18), (.tmp 22)] _ [.agg #[.int .u64 (l0 (n)), .int .u64 (l1 (n)), .int .u64 (l2 (n)), .int .u64 (l3 (n))], .int .i64 ((i : Int))] (dw (n * 10 ^ i)) rfl rfl (fun _ _ => by kernel_rfl) (shift_n n i _ hn0 hn (by omega)) rfl ?_
 intro w4 hq
 replace Q1 := Q1.mo hq
 replace Q2 := Q2.mo hq
 replace M := M.trans hq
 clear hq
 refine wl_alloc 74 #[.int .u64 0, .int .u64 0, .int .u64 0, .int .u64 0, .int .u64 0, .int .u64 0, .int .u64 0, .int .u64 0] rfl (fun _ => by kernel_rfl) rfl ?_
 intro k3 w5 hk hz hq Q3
 have ne_k1_k3 : k1 ≠ k3 := by have := Q1.lt; omega
 have ne_k2_k3 : k2 ≠ k3 := by have := Q2.lt; omega
 have N_k3 : w.heap.size ≤ k3 := by have := M.size; omega
 replace Q1 := Q1.mo hq
 replace Q2 := Q2.mo hq
 replace M := M.trans hq
 clear hk hz hq
 refine wl_st 74 (.tmp 6) (.tmp 23) k3 0 (dwr (n * 10 ^ i)) _ (dwl (n * 10 ^ i)) Q3 rfl rfl rfl rfl rfl sz87 rfl rfl rfl ?_
 intro w6 hS Qn
 replace Q3 := Qn
 clear Qn
 replace Q1 := hS.other _ _ ne_k1_k3 Q1
 replace Q2 := hS.other _ _ ne_k2_k3 Q2
 replace M := hS.mo _ N_k3 M
 clear hS
 refine w_nil (xn_then (w_seq (w_reg ?_)))
 refine wl_f 26 1 (.tmp 3) (pt k2 0) (pt k2 1) ?_
 refine wl_l 24 (.tmp 24) (pt k2 1) (.agg #[.int .u64 (l0 (m)), .int .u64 (l1 (m)), .int .u64 (l2 (m)), .int .u64 (l3 (m))]) (run_row Q2 24 1 4 _ rfl Tryz.underlying24 rfl sz24) ?_
 refine wl_m (.tmp 5) (.int .i64 (S)) ?_
 refine wl_f 26 2 (.tmp 3) (pt k2 0) (pt k2 5) ?_
 refine wl_l 3 (.tmp 27) (pt k2 5) (.int .i64 (t)) (run_one Q2 3 5 rfl Tryz.underlying3 rfl) ?_
 refine wl_b .sub 3 (.tmp 26) (.tmp 28) (.int .i64 (S)) (.int .i64 (t)) (.int .i64 ((j : Int))) (sub3_run hj (by omega) (by omega) _ _ _) ?_
 refine wl_call 97 [(.tmp 25), (.tmp 29)] _ [.agg #[.int .u64 (l0 (m)), .int .u64 (l1 (m)), .int .u64 (l2 (m)), .int .u64 (l3 (m))], .int .i64 ((j : Int))] (dw (m * 10 ^ j)) rfl rfl (fun _ _ => by kernel_rfl) (shift_n m j _ hm0 hm (by omega)) rfl ?_
 intro w7 hq
 replace Q1 := Q1.mo hq
 replace Q2 := Q2.mo hq
 replace Q3 := Q3.mo hq
 replace M := M.trans hq
 clear hq
 refine wl_alloc 74 #[.int .u64 0, .int .u64 0, .int .u64 0, .int .u64 0, .int .u64 0, .int .u64 0, .int .u64 0, .int .u64 0] rfl (fun _ => by kernel_rfl) rfl ?_
 intro k4 w8 hk hz hq Q4
 have ne_k1_k4 : k1 ≠ k4 := by have := Q1.lt; omega
 have ne_k2_k4 : k2 ≠ k4 := by have := Q2.lt; omega
 have ne_k3_k4 : k3 ≠ k4 := by have := Q3.lt; omega
 have N_k4 : w.heap.size ≤ k4 := by have := M.size; omega
 replace Q1 := Q1.mo hq
 replace Q2 := Q2.mo hq
 replace Q3 := Q3.mo hq
 replace M := M.trans hq
 clear hk hz hq
 refine wl_st 74 (.tmp 7) (.tmp 30) k4 0 (dwr (m * 10 ^ j)) _ (dwl (m * 10 ^ j)) Q4 rfl rfl rfl rfl rfl sz87 rfl rfl rfl ?_
 intro w9 hS Qn
 replace Q4 := Qn
 clear Qn
 replace Q1 := hS.other _ _ ne_k1_k4 Q1
 replace Q2 := hS.other _ _ ne_k2_k4 Q2
 replace Q3 := hS.other _ _ ne_k3_k4 Q3
 replace M := hS.mo _ N_k4 M
 clear hS
 refine w_nil (xn_then (w_seq (w_block (w_seq (w_reg ?_)))))
 refine wl_f 26 0 (.tmp 2) (pt k1 0) (pt k1 0) ?_
 refine wl_l 4 (.tmp 32) (pt k1 0) (.bool true) (run_one Q1 4 0 rfl Tryz.underlying4 rfl) ?_
 refine wl_m (.tmp 33) (.bool true) ?_
 refine wl_f 26 0 (.tmp 3) (pt k2 0) (pt k2 0) ?_
 refine wl_l 4 (.tmp 35) (pt k2 0) (.bool true) (run_one Q2 4 0 rfl Tryz.underlying4 rfl) ?_
 refine wl_un (fun v => Op.unary .not v) (.tmp 36) (.bool true) (.bool false) (fun _ => rfl) rfl (by kernel_rfl) rfl ?_
 refine wl_pick (.tmp 34) (.tmp 37) (.const (.bool false)) true (.bool false) (fun _ => rfl) rfl rfl rfl ?_
 refine wl_m (.tmp 38) (.bool false) ?_
 refine w_nil (xn_then (w_condF rfl (w_seq (w_reg ?_))))
 refine wl_f 26 0 (.tmp 2) (pt k1 0) (pt k1 0) ?_
 refine wl_l 4 (.tmp 40) (pt k1 0) (.bool true) (run_one Q1 4 0 rfl Tryz.underlying4 rfl) ?_
 refine wl_un (fun v => Op.unary .not v) (.tmp 41) (.bool true) (.bool false) (fun _ => rfl) rfl (by kernel_rfl) rfl ?_
 refine wl_m (.tmp 42) (.bool false) ?_
 refine wl_skip rfl (wl_skip rfl ?_)
 refine wl_pick (.tmp 43) (.tmp 45) (.const (.bool false)) false (.bool false) (fun _ => rfl) rfl rfl rfl ?_
 refine wl_m (.tmp 46) (.bool false) ?_
 refine w_nil (xn_then (w_condF rfl (w_seq (w_reg ?_))))
 refine wl_f 26 0 (.tmp 2) (pt k1 0) (pt k1 0) ?_
 refine wl_l 4 (.tmp 48) (pt k1 0) (.bool true) (run_one Q1 4 0 rfl Tryz.underlying4 rfl) ?_
 refine wl_m (.tmp 49) (.bool true) ?_
 refine w_nil (xn_then (w_condT rfl (w_seq (w_reg ?_))))
 refine wl_l 74 (.tmp 7) (pt k4 0) (dw (m * 10 ^ j)) (run_row Q4 74 0 8 (dwl (m * 10 ^ j)) rfl Tryz.underlying74 rfl sz87) ?_
 refine wl_l 74 (.tmp 6) (pt k3 0) (dw (n * 10 ^ i)) (run_row Q3 74 0 8 (dwl (n * 10 ^ i)) rfl Tryz.underlying74 rfl sz87) ?_
 refine wl_call 99 [(.tmp 50), (.tmp 51)] _ [dw (m * 10 ^ j), dw (n * 10 ^ i)] (.int .i64 (cm (m * 10 ^ j) (n * 10 ^ i))) rfl rfl (fun _ _ => by kernel_rfl) (rcmpw_n (m * 10 ^ j) (n * 10 ^ i) _ bY.1 bY.2 bX.1 bX.2) rfl ?_
 intro w10 hq
 replace Q1 := Q1.mo hq
 replace Q2 := Q2.mo hq
 replace Q3 := Q3.mo hq
 replace Q4 := Q4.mo hq
 replace M := M.trans hq
 clear hq
 refine wl_m (.tmp 52) (.int .i64 (cm (m * 10 ^ j) (n * 10 ^ i))) ?_
 refine w_nil (xn_then (w_ret (xr_blk (xr_then ?_))))
 exact w_ret1 _ _ rfl rfl ⟨rfl, M⟩
theorem rcmpd_ff (n m s t S : Int) (i j : Nat) (w : World) (hn0 : 0 ≤ n) (hn : n < MM) (hm0 : 0 ≤ m) (hm : m < MM) (h1 : ck false n s = 0) (h2 : ck false m t = 0) (hS : max s t = S) (hi : S - s = (i : Int)) (hj : S - t = (j : Int)) (hi7 : i ≤ 18) (hj7 : j ≤ 18) :
  Calls Tryz.prog 67 #[dc false n s, dc false m t] w fun e' w' => e' = .returned (.int .i64 (cm (n * 10 ^ i) (m * 10 ^ j))) ∧ Mo w w' := by
 have bX := lifted_bd hn0 hn (i := i) (by omega)
 have bY := lifted_bd hm0 hm (i := j) (by omega)
 refine w_enter 56 Tryz.func67 Tryz.ntmps67 rfl rfl ?_
 have M : Mo w w := Mo.refl _
 refine w_seq (w_reg ?_)
 refine wl_box 26 (.tmp 0) (dc false (n) (s)) ((dcr false (n) (s))) rfl rfl (fun _ => by kernel_rfl) rfl ?_
 intro k1 w1 hk hz hq Q1
 have N_k1 : w.heap.size ≤ k1 := by have := M.size; omega
 replace M := M.trans hq
 clear hk hz hq
 refine wl_box 26 (.tmp 1) (dc false (m) (t)) ((dcr false (m) (t))) rfl rfl (fun _ => by kernel_rfl) rfl ?_
 intro k2 w2 hk hz hq Q2
 have ne_k1_k2 : k1 ≠ k2 := by have := Q1.lt; omega
 have N_k2 : w.heap.size ≤ k2 := by have := M.size; omega
 replace Q1 := Q1.mo hq
 replace M := M.trans hq
 clear hk hz hq
 refine wl_m (.const (.int .i64 (0))) (.int .i64 (0)) ?_
 refine w_nil (xn_then (w_seq (w_seq (w_reg ?_))))
 refine wl_l 26 (.tmp 2) (pt k1 0) (dc false (n) (s)) (run_row Q1 26 0 6 (dcl false (n) (s)) rfl Tryz.underlying26 rfl sz40) ?_
 refine wl_l 26 (.tmp 3) (pt k2 0) (dc false (m) (t)) (run_row Q2 26 0 6 (dcl false (m) (t)) rfl Tryz.underlying26 rfl sz40) ?_
 refine wl_call 96 [(.tmp 8), (.tmp 9)] _ [dc false (n) (s), dc false (m) (t)] (.int .i64 (0)) rfl rfl (fun _ _ => by kernel_rfl) (rboth_ok false n s false m t _ hn0 hn hm0 hm h1 h2) rfl ?_
 intro w3 hq
 replace Q1 := Q1.mo hq
 replace Q2 := Q2.mo hq
 replace M := M.trans hq
 clear hq
 refine wl_b .neq 32 (.tmp 10) (.const (.int .i64 (0))) (.int .i64 (0)) (.int .i64 (0)) (.bool false) (by kernel_rfl) ?_
 refine w_nil (xn_then (w_condF rfl (w_skip (xn_then (w_seq (w_reg ?_))))))
 refine wl_f 26 2 (.tmp 2) (pt k1 0) (pt k1 5) ?_
 refine wl_l 3 (.tmp 12) (pt k1 5) (.int .i64 (s)) (run_one Q1 3 5 rfl Tryz.underlying3 rfl) ?_
 refine wl_f 26 2 (.tmp 3) (pt k2 0) (pt k2 5) ?_
 refine wl_l 3 (.tmp 14) (pt k2 5) (.int .i64 (t)) (run_one Q2 3 5 rfl Tryz.underlying3 rfl) ?_
 refine wl_val (.int .i64 (S)) (by rw [← hS]; exact max_run _ _ _ _ _ rfl rfl _ _ _ _ _ _) rfl ?_
 refine wl_m (.tmp 16) (.int .i64 (S)) ?_
 refine w_nil (xn_then (w_seq (w_reg ?_)))
 refine wl_f 26 1 (.tmp 2) (pt k1 0) (pt k1 1) ?_
 refine wl_l 24 (.tmp 17) (pt k1 1) (.agg #[.int .u64 (l0 (n)), .int .u64 (l1 (n)), .int .u64 (l2 (n)), .int .u64 (l3 (n))]) (run_row Q1 24 1 4 _ rfl Tryz.underlying24 rfl sz24) ?_
 refine wl_m (.tmp 5) (.int .i64 (S)) ?_
 refine wl_f 26 2 (.tmp 2) (pt k1 0) (pt k1 5) ?_
 refine wl_l 3 (.tmp 20) (pt k1 5) (.int .i64 (s)) (run_one Q1 3 5 rfl Tryz.underlying3 rfl) ?_
 refine wl_b .sub 3 (.tmp 19) (.tmp 21) (.int .i64 (S)) (.int .i64 (s)) (.int .i64 ((i : Int))) (sub3_run hi (by omega) (by omega) _ _ _) ?_
 refine wl_call 97 [(.tmp 18), (.tmp 22)] _ [.agg #[.int .u64 (l0 (n)), .int .u64 (l1 (n)), .int .u64 (l2 (n)), .int .u64 (l3 (n))], .int .i64 ((i : Int))] (dw (n * 10 ^ i)) rfl rfl (fun _ _ => by kernel_rfl) (shift_n n i _ hn0 hn (by omega)) rfl ?_
 intro w4 hq
 replace Q1 := Q1.mo hq
 replace Q2 := Q2.mo hq
 replace M := M.trans hq
 clear hq
 refine wl_alloc 74 #[.int .u64 0, .int .u64 0, .int .u64 0, .int .u64 0, .int .u64 0, .int .u64 0, .int .u64 0, .int .u64 0] rfl (fun _ => by kernel_rfl) rfl ?_
 intro k3 w5 hk hz hq Q3
 have ne_k1_k3 : k1 ≠ k3 := by have := Q1.lt; omega
 have ne_k2_k3 : k2 ≠ k3 := by have := Q2.lt; omega
 have N_k3 : w.heap.size ≤ k3 := by have := M.size; omega
 replace Q1 := Q1.mo hq
 replace Q2 := Q2.mo hq
 replace M := M.trans hq
 clear hk hz hq
 refine wl_st 74 (.tmp 6) (.tmp 23) k3 0 (dwr (n * 10 ^ i)) _ (dwl (n * 10 ^ i)) Q3 rfl rfl rfl rfl rfl sz87 rfl rfl rfl ?_
 intro w6 hS Qn
 replace Q3 := Qn
 clear Qn
 replace Q1 := hS.other _ _ ne_k1_k3 Q1
 replace Q2 := hS.other _ _ ne_k2_k3 Q2
 replace M := hS.mo _ N_k3 M
 clear hS
 refine w_nil (xn_then (w_seq (w_reg ?_)))
 refine wl_f 26 1 (.tmp 3) (pt k2 0) (pt k2 1) ?_
 refine wl_l 24 (.tmp 24) (pt k2 1) (.agg #[.int .u64 (l0 (m)), .int .u64 (l1 (m)), .int .u64 (l2 (m)), .int .u64 (l3 (m))]) (run_row Q2 24 1 4 _ rfl Tryz.underlying24 rfl sz24) ?_
 refine wl_m (.tmp 5) (.int .i64 (S)) ?_
 refine wl_f 26 2 (.tmp 3) (pt k2 0) (pt k2 5) ?_
 refine wl_l 3 (.tmp 27) (pt k2 5) (.int .i64 (t)) (run_one Q2 3 5 rfl Tryz.underlying3 rfl) ?_
 refine wl_b .sub 3 (.tmp 26) (.tmp 28) (.int .i64 (S)) (.int .i64 (t)) (.int .i64 ((j : Int))) (sub3_run hj (by omega) (by omega) _ _ _) ?_
 refine wl_call 97 [(.tmp 25), (.tmp 29)] _ [.agg #[.int .u64 (l0 (m)), .int .u64 (l1 (m)), .int .u64 (l2 (m)), .int .u64 (l3 (m))], .int .i64 ((j : Int))] (dw (m * 10 ^ j)) rfl rfl (fun _ _ => by kernel_rfl) (shift_n m j _ hm0 hm (by omega)) rfl ?_
 intro w7 hq
 replace Q1 := Q1.mo hq
 replace Q2 := Q2.mo hq
 replace Q3 := Q3.mo hq
 replace M := M.trans hq
 clear hq
 refine wl_alloc 74 #[.int .u64 0, .int .u64 0, .int .u64 0, .int .u64 0, .int .u64 0, .int .u64 0, .int .u64 0, .int .u64 0] rfl (fun _ => by kernel_rfl) rfl ?_
 intro k4 w8 hk hz hq Q4
 have ne_k1_k4 : k1 ≠ k4 := by have := Q1.lt; omega
 have ne_k2_k4 : k2 ≠ k4 := by have := Q2.lt; omega
 have ne_k3_k4 : k3 ≠ k4 := by have := Q3.lt; omega
 have N_k4 : w.heap.size ≤ k4 := by have := M.size; omega
 replace Q1 := Q1.mo hq
 replace Q2 := Q2.mo hq
 replace Q3 := Q3.mo hq
 replace M := M.trans hq
 clear hk hz hq
 refine wl_st 74 (.tmp 7) (.tmp 30) k4 0 (dwr (m * 10 ^ j)) _ (dwl (m * 10 ^ j)) Q4 rfl rfl rfl rfl rfl sz87 rfl rfl rfl ?_
 intro w9 hS Qn
 replace Q4 := Qn
 clear Qn
 replace Q1 := hS.other _ _ ne_k1_k4 Q1
 replace Q2 := hS.other _ _ ne_k2_k4 Q2
 replace Q3 := hS.other _ _ ne_k3_k4 Q3
 replace M := hS.mo _ N_k4 M
 clear hS
 refine w_nil (xn_then (w_seq (w_block (w_seq (w_reg ?_)))))
 refine wl_f 26 0 (.tmp 2) (pt k1 0) (pt k1 0) ?_
 refine wl_l 4 (.tmp 32) (pt k1 0) (.bool false) (run_one Q1 4 0 rfl Tryz.underlying4 rfl) ?_
 refine wl_m (.tmp 33) (.bool false) ?_
 refine wl_skip rfl (wl_skip rfl (wl_skip rfl ?_))
 refine wl_pick (.tmp 34) (.tmp 37) (.const (.bool false)) false (.bool false) (fun _ => rfl) rfl rfl rfl ?_
 refine wl_m (.tmp 38) (.bool false) ?_
 refine w_nil (xn_then (w_condF rfl (w_seq (w_reg ?_))))
 refine wl_f 26 0 (.tmp 2) (pt k1 0) (pt k1 0) ?_
 refine wl_l 4 (.tmp 40) (pt k1 0) (.bool false) (run_one Q1 4 0 rfl Tryz.underlying4 rfl) ?_
 refine wl_un (fun v => Op.unary .not v) (.tmp 41) (.bool false) (.bool true) (fun _ => rfl) rfl (by kernel_rfl) rfl ?_
 refine wl_m (.tmp 42) (.bool true) ?_
 refine wl_f 26 0 (.tmp 3) (pt k2 0) (pt k2 0) ?_
 refine wl_l 4 (.tmp 44) (pt k2 0) (.bool false) (run_one Q2 4 0 rfl Tryz.underlying4 rfl) ?_
 refine wl_pick (.tmp 43) (.tmp 45) (.const (.bool false)) true (.bool false) (fun _ => rfl) rfl rfl rfl ?_
 refine wl_m (.tmp 46) (.bool false) ?_
 refine w_nil (xn_then (w_condF rfl (w_seq (w_reg ?_))))
 refine wl_f 26 0 (.tmp 2) (pt k1 0) (pt k1 0) ?_
 refine wl_l 4 (.tmp 48) (pt k1 0) (.bool false) (run_one Q1 4 0 rfl Tryz.underlying4 rfl) ?_
 refine wl_m (.tmp 49) (.bool false) ?_
 refine w_nil (xn_then (w_condF rfl (w_skip (xn_blk (xn_then (w_seq (w_reg ?_)))))))
 refine wl_l 74 (.tmp 6) (pt k3 0) (dw (n * 10 ^ i)) (run_row Q3 74 0 8 (dwl (n * 10 ^ i)) rfl Tryz.underlying74 rfl sz87) ?_
 refine wl_l 74 (.tmp 7) (pt k4 0) (dw (m * 10 ^ j)) (run_row Q4 74 0 8 (dwl (m * 10 ^ j)) rfl Tryz.underlying74 rfl sz87) ?_
 refine wl_call 99 [(.tmp 53), (.tmp 54)] _ [dw (n * 10 ^ i), dw (m * 10 ^ j)] (.int .i64 (cm (n * 10 ^ i) (m * 10 ^ j))) rfl rfl (fun _ _ => by kernel_rfl) (rcmpw_n (n * 10 ^ i) (m * 10 ^ j) _ bX.1 bX.2 bY.1 bY.2) rfl ?_
 intro w10 hq
 replace Q1 := Q1.mo hq
 replace Q2 := Q2.mo hq
 replace Q3 := Q3.mo hq
 replace Q4 := Q4.mo hq
 replace M := M.trans hq
 clear hq
 refine wl_m (.tmp 55) (.int .i64 (cm (n * 10 ^ i) (m * 10 ^ j))) ?_
 refine w_nil (xn_then (w_ret ?_))
 exact w_ret1 _ _ rfl rfl ⟨rfl, M⟩
theorem rcmpd_z (u s v t : Int) (w : World) (hu : ab u < MM) (hv : ab v < MM) (hs : sc s = true) (ht : sc t = true) :
  Calls Tryz.prog 67 #[dz u s, dz v t] w fun e w' => e = .returned (.int .i64 (cm (u * pw (max s t - s)) (v * pw (max s t - t)))) ∧ Mo w w' := by
 obtain ⟨s0, s1⟩ := sc_iff.1 hs
 obtain ⟨t0, t1⟩ := sc_iff.1 ht
 obtain ⟨S, hS⟩ : ∃ S, max s t = S := ⟨_, rfl⟩
 obtain ⟨i, hi⟩ : ∃ i : Nat, S - s = (i : Int) := ⟨(S - s).toNat, by omega⟩
 obtain ⟨j, hj⟩ : ∃ j : Nat, S - t = (j : Int) := ⟨(S - t).toNat, by omega⟩
 rw [hS, hi, hj, pw_nat, pw_nat]
 have pi : (0 : Int) < 10 ^ i := Int.pow_pos (by decide)
 have pj : (0 : Int) < 10 ^ j := Int.pow_pos (by decide)
 have eX := ab_mul (u := u) pi
 have eY := ab_mul (u := v) pj
 have nX := neg_mul_iff (u := u) pi
 have nY := neg_mul_iff (u := v) pj
 have cX := ck_dz (v := u) hs
 have cY := ck_dz (v := v) ht
 generalize hA : u * 10 ^ i = A at *
 generalize hB : v * 10 ^ j = B at *
 have cA := ab_c A
 have cB := ab_c B
 unfold dz
 rw [← nX] at cX ⊢
 rw [← nY] at cY ⊢
 by_cases a : A < 0 <;> by_cases b : B < 0
 ·rw [decide_eq_true a] at cX ⊢
  rw [decide_eq_true b] at cY ⊢
  have := rcmpd_tt (ab u) (ab v) s t S i j w (ab_nn u) hu (ab_nn v) hv cX cY hS hi hj (by omega) (by omega)
  rw [eX, eY, show cm (ab B) (ab A) = cm A B by unfold cm; split <;> split <;> (try split) <;> (try split) <;> omega] at this
  exact this
 ·rw [decide_eq_true a] at cX ⊢
  rw [decide_eq_false b] at cY ⊢
  have e : cm A B = -1 := by unfold cm; rw [if_pos (by omega)]
  rw [e]
  exact rcmpd_tf (ab u) (ab v) s t S i j w (ab_nn u) hu (ab_nn v) hv cX cY hS hi hj (by omega) (by omega)
 ·rw [decide_eq_false a] at cX ⊢
  rw [decide_eq_true b] at cY ⊢
  have e : cm A B = 1 := by unfold cm; rw [if_neg (by omega), if_pos (by omega)]
  rw [e]
  exact rcmpd_ft (ab u) (ab v) s t S i j w (ab_nn u) hu (ab_nn v) hv cX cY hS hi hj (by omega) (by omega)
 ·rw [decide_eq_false a] at cX ⊢
  rw [decide_eq_false b] at cY ⊢
  have := rcmpd_ff (ab u) (ab v) s t S i j w (ab_nn u) hu (ab_nn v) hv cX cY hS hi hj (by omega) (by omega)
  rw [eX, eY, show ab A = A by omega, show ab B = B by omega] at this
  exact this
end Go.Proofs.YtogomodbcjpfiaaGreatDoor

namespace Go.Proofs.YtogomodbcjpfiaaGreatDoor
open Go.RowKit
theorem rmulTo_w (b c : Bool) (n m s t S p : Int) (d0 d1 d2 d3 d4 d5 : Value) (e : Int) (w : World) (hn0 : 0 ≤ n) (hn : n < MM) (hm0 : 0 ≤ m) (hm : m < MM) (h1 : ck b n s = 0) (h2 : ck c m t = 0) (hS : sc S = true) (hp1 : 1 ≤ p) (hp5 : p ≤ 5) (hb1 : 0 ≤ s ∧ s ≤ 18) (hb2 : 0 ≤ t ∧ t ≤ 18) (hd : [d0, d1, d2, d3, d4, d5].all (·.oneCell') = true) (hrd : ∀ w, Calls Tryz.prog 74 #[.bool (b != c), dw (n * m), .int .i64 (s + t), .int .i64 S, .int .i64 p] w fun e' w' => e' = .returned (.tuple #[.agg #[d0, d1, d2, d3, d4, d5], .int .i64 e]) ∧ Mo w w') :
  Calls Tryz.prog 66 #[dc b n s, dc c m t, .int .i64 S, .int .i64 p] w fun e' w' => e' = .returned (.tuple #[.agg #[d0, d1, d2, d3, d4, d5], .int .i64 e]) ∧ Mo w w' := by
 refine w_enter 54 Tryz.func66 Tryz.ntmps66 rfl rfl ?_
 have M : Mo w w := Mo.refl _
 refine w_seq (w_reg ?_)
 refine wl_box 26 (.tmp 0) (dc b (n) (s)) ((dcr b (n) (s))) rfl rfl (fun _ => by kernel_rfl) rfl ?_
 intro k1 w1 hk hz hq Q1
 have N_k1 : w.heap.size ≤ k1 := by have := M.size; omega
 replace M := M.trans hq
 clear hk hz hq
 refine wl_box 26 (.tmp 1) (dc c (m) (t)) ((dcr c (m) (t))) rfl rfl (fun _ => by kernel_rfl) rfl ?_
 intro k2 w2 hk hz hq Q2
 have ne_k1_k2 : k1 ≠ k2 := by have := Q1.lt; omega
 have N_k2 : w.heap.size ≤ k2 := by have := M.size; omega
 replace Q1 := Q1.mo hq
 replace M := M.trans hq
 clear hk hz hq
 refine wl_alloc 26 #[.bool false, .int .u64 0, .int .u64 0, .int .u64 0, .int .u64 0, .int .i64 0] rfl (fun _ => by kernel_rfl) rfl ?_
 intro k3 w3 hk hz hq Q3
 have ne_k1_k3 : k1 ≠ k3 := by have := Q1.lt; omega
 have ne_k2_k3 : k2 ≠ k3 := by have := Q2.lt; omega
 have N_k3 : w.heap.size ≤ k3 := by have := M.size; omega
 replace Q1 := Q1.mo hq
 replace Q2 := Q2.mo hq
 replace M := M.trans hq
 clear hk hz hq
 refine wl_m (.const (.int .i64 (0))) (.int .i64 (0)) ?_
 refine w_nil (xn_then (w_seq (w_seq (w_reg ?_))))
 refine wl_l 26 (.tmp 4) (pt k1 0) (dc b (n) (s)) (run_row Q1 26 0 6 (dcl b (n) (s)) rfl Tryz.underlying26 rfl sz40) ?_
 refine wl_l 26 (.tmp 5) (pt k2 0) (dc c (m) (t)) (run_row Q2 26 0 6 (dcl c (m) (t)) rfl Tryz.underlying26 rfl sz40) ?_
 refine wl_call 96 [(.tmp 14), (.tmp 15)] _ [dc b (n) (s), dc c (m) (t)] (.int .i64 (0)) rfl rfl (fun _ _ => by kernel_rfl) (rboth_ok b n s c m t _ hn0 hn hm0 hm h1 h2) rfl ?_
 intro w4 hq
 replace Q1 := Q1.mo hq
 replace Q2 := Q2.mo hq
 replace Q3 := Q3.mo hq
 replace M := M.trans hq
 clear hq
 refine wl_m (.tmp 16) (.int .i64 (0)) ?_
 refine w_nil (xn_then (w_seq (w_reg ?_)))
 refine wl_m (.tmp 10) (.int .i64 (0)) ?_
 refine wl_b .neq 32 (.tmp 17) (.const (.int .i64 (0))) (.int .i64 (0)) (.int .i64 (0)) (.bool false) (by kernel_rfl) ?_
 refine w_nil (xn_then (w_condF rfl (w_skip (xn_then (w_seq (w_seq (w_reg ?_)))))))
 refine wl_m (.tmp 2) (.int .i64 S) ?_
 refine wl_m (.tmp 3) (.int .i64 p) ?_
 refine wl_call 73 [(.tmp 21), (.tmp 22)] _ [.int .i64 S, .int .i64 p] (.int .i64 (0)) rfl rfl (fun _ _ => by kernel_rfl) (may_ok S p _ hS hp1 hp5) rfl ?_
 intro w5 hq
 replace Q1 := Q1.mo hq
 replace Q2 := Q2.mo hq
 replace Q3 := Q3.mo hq
 replace M := M.trans hq
 clear hq
 refine wl_m (.tmp 23) (.int .i64 (0)) ?_
 refine w_nil (xn_then (w_seq (w_reg ?_)))
 refine wl_m (.tmp 11) (.int .i64 (0)) ?_
 refine wl_b .neq 32 (.tmp 24) (.const (.int .i64 (0))) (.int .i64 (0)) (.int .i64 (0)) (.bool false) (by kernel_rfl) ?_
 refine w_nil (xn_then (w_condF rfl (w_skip (xn_then (w_seq (w_reg ?_))))))
 refine wl_f 26 1 (.tmp 4) (pt k1 0) (pt k1 1) ?_
 refine wl_l 24 (.tmp 29) (pt k1 1) (.agg #[.int .u64 (l0 (n)), .int .u64 (l1 (n)), .int .u64 (l2 (n)), .int .u64 (l3 (n))]) (run_row Q1 24 1 4 _ rfl Tryz.underlying24 rfl sz24) ?_
 refine wl_f 26 1 (.tmp 5) (pt k2 0) (pt k2 1) ?_
 refine wl_l 24 (.tmp 31) (pt k2 1) (.agg #[.int .u64 (l0 (m)), .int .u64 (l1 (m)), .int .u64 (l2 (m)), .int .u64 (l3 (m))]) (run_row Q2 24 1 4 _ rfl Tryz.underlying24 rfl sz24) ?_
 refine wl_call 101 [(.tmp 30), (.tmp 32)] _ [.agg #[.int .u64 (l0 (n)), .int .u64 (l1 (n)), .int .u64 (l2 (n)), .int .u64 (l3 (n))], .agg #[.int .u64 (l0 (m)), .int .u64 (l1 (m)), .int .u64 (l2 (m)), .int .u64 (l3 (m))]] (.tuple #[nv (n * m / MM), nv (n * m)]) rfl rfl (fun _ _ => by kernel_rfl) (rmul_n n m _ hn0 hn hm0 hm) rfl ?_
 intro w6 hq
 replace Q1 := Q1.mo hq
 replace Q2 := Q2.mo hq
 replace Q3 := Q3.mo hq
 replace M := M.trans hq
 clear hq
 refine wl_m (.tmp 33) (.tuple #[nv (n * m / MM), nv (n * m)]) ?_
 refine wl_un (fun v => Instr.extract v 0) (.tmp 28) (.tuple #[nv (n * m / MM), nv (n * m)]) (nv (n * m / MM)) (fun _ => rfl) rfl (by kernel_rfl) rfl ?_
 refine wl_un (fun v => Instr.extract v 1) (.tmp 28) (.tuple #[nv (n * m / MM), nv (n * m)]) (nv (n * m)) (fun _ => rfl) rfl (by kernel_rfl) rfl ?_
 refine wl_alloc 24 #[.int .u64 0, .int .u64 0, .int .u64 0, .int .u64 0] rfl (fun _ => by kernel_rfl) rfl ?_
 intro k4 w7 hk hz hq Q4
 have ne_k1_k4 : k1 ≠ k4 := by have := Q1.lt; omega
 have ne_k2_k4 : k2 ≠ k4 := by have := Q2.lt; omega
 have ne_k3_k4 : k3 ≠ k4 := by have := Q3.lt; omega
 have N_k4 : w.heap.size ≤ k4 := by have := M.size; omega
 replace Q1 := Q1.mo hq
 replace Q2 := Q2.mo hq
 replace Q3 := Q3.mo hq
 replace M := M.trans hq
 clear hk hz hq
 refine wl_alloc 24 #[.int .u64 0, .int .u64 0, .int .u64 0, .int .u64 0] rfl (fun _ => by kernel_rfl) rfl ?_
 intro k5 w8 hk hz hq Q5
 have ne_k1_k5 : k1 ≠ k5 := by have := Q1.lt; omega
 have ne_k2_k5 : k2 ≠ k5 := by have := Q2.lt; omega
 have ne_k3_k5 : k3 ≠ k5 := by have := Q3.lt; omega
 have ne_k4_k5 : k4 ≠ k5 := by have := Q4.lt; omega
 have N_k5 : w.heap.size ≤ k5 := by have := M.size; omega
 replace Q1 := Q1.mo hq
 replace Q2 := Q2.mo hq
 replace Q3 := Q3.mo hq
 replace Q4 := Q4.mo hq
 replace M := M.trans hq
 clear hk hz hq
 refine wl_st 24 (.tmp 12) (.tmp 34) k4 0 (nvar (n * m / MM)) _ (nvli (n * m / MM)) Q4 rfl rfl rfl rfl rfl sz24 rfl rfl rfl ?_
 intro w9 hS Qn
 replace Q4 := Qn
 clear Qn
 replace Q1 := hS.other _ _ ne_k1_k4 Q1
 replace Q2 := hS.other _ _ ne_k2_k4 Q2
 replace Q3 := hS.other _ _ ne_k3_k4 Q3
 replace Q5 := hS.other _ _ ne_k4_k5.symm Q5
 replace M := hS.mo _ N_k4 M
 clear hS
 refine wl_st 24 (.tmp 13) (.tmp 35) k5 0 (nvar (n * m)) _ (nvli (n * m)) Q5 rfl rfl rfl rfl rfl sz24 rfl rfl rfl ?_
 intro w10 hS Qn
 replace Q5 := Qn
 clear Qn
 replace Q1 := hS.other _ _ ne_k1_k5 Q1
 replace Q2 := hS.other _ _ ne_k2_k5 Q2
 replace Q3 := hS.other _ _ ne_k3_k5 Q3
 replace Q4 := hS.other _ _ ne_k4_k5 Q4
 replace M := hS.mo _ N_k5 M
 clear hS
 refine w_nil (xn_then (w_seq (w_reg ?_)))
 refine wl_f 26 0 (.tmp 4) (pt k1 0) (pt k1 0) ?_
 refine wl_l 4 (.tmp 36) (pt k1 0) (.bool b) (run_one Q1 4 0 rfl Tryz.underlying4 rfl) ?_
 refine wl_f 26 0 (.tmp 5) (pt k2 0) (pt k2 0) ?_
 refine wl_l 4 (.tmp 38) (pt k2 0) (.bool c) (run_one Q2 4 0 rfl Tryz.underlying4 rfl) ?_
 refine wl_b .neq 4 (.tmp 37) (.tmp 39) (.bool b) (.bool c) (.bool (b != c)) (neb_run rfl _ _ _) ?_
 refine wl_l 24 (.tmp 12) (pt k4 0) (nv (n * m / MM)) (run_row Q4 24 0 4 (nvli (n * m / MM)) rfl Tryz.underlying24 rfl sz24) ?_
 refine wl_l 24 (.tmp 13) (pt k5 0) (nv (n * m)) (run_row Q5 24 0 4 (nvli (n * m)) rfl Tryz.underlying24 rfl sz24) ?_
 refine wl_build 74 [(0, (.tmp 41)), (1, (.tmp 42))] [(0, nv (n * m / MM)), (1, nv (n * m))] (.agg #[.int .u64 (l0 (n * m / MM)), .int .u64 (l1 (n * m / MM)), .int .u64 (l2 (n * m / MM)), .int .u64 (l3 (n * m / MM)), .int .u64 (l0 (n * m)), .int .u64 (l1 (n * m)), .int .u64 (l2 (n * m)), .int .u64 (l3 (n * m))]) rfl rfl (by kernel_rfl) rfl ?_
 refine wl_f 26 2 (.tmp 4) (pt k1 0) (pt k1 5) ?_
 refine wl_l 3 (.tmp 44) (pt k1 5) (.int .i64 (s)) (run_one Q1 3 5 rfl Tryz.underlying3 rfl) ?_
 refine wl_f 26 2 (.tmp 5) (pt k2 0) (pt k2 5) ?_
 refine wl_l 3 (.tmp 46) (pt k2 5) (.int .i64 (t)) (run_one Q2 3 5 rfl Tryz.underlying3 rfl) ?_
 refine wl_b .add 3 (.tmp 45) (.tmp 47) (.int .i64 (s)) (.int .i64 (t)) (.int .i64 (s + t)) (add3_run rfl (by omega) (by omega) _ _ _) ?_
 refine wl_m (.tmp 2) (.int .i64 S) ?_
 refine wl_m (.tmp 3) (.int .i64 p) ?_
 refine wl_call 74 [(.tmp 40), (.tmp 43), (.tmp 48), (.tmp 49), (.tmp 50)] _ [.bool (b != c), .agg #[.int .u64 (l0 (n * m / MM)), .int .u64 (l1 (n * m / MM)), .int .u64 (l2 (n * m / MM)), .int .u64 (l3 (n * m / MM)), .int .u64 (l0 (n * m)), .int .u64 (l1 (n * m)), .int .u64 (l2 (n * m)), .int .u64 (l3 (n * m))], .int .i64 (s + t), .int .i64 S, .int .i64 p] (.tuple #[.agg #[d0, d1, d2, d3, d4, d5], .int .i64 e]) rfl rfl (fun _ _ => by kernel_rfl) (hrd _) rfl ?_
 intro w11 hq
 replace Q1 := Q1.mo hq
 replace Q2 := Q2.mo hq
 replace Q3 := Q3.mo hq
 replace Q4 := Q4.mo hq
 replace Q5 := Q5.mo hq
 replace M := M.trans hq
 clear hq
 refine wl_un (fun v => Instr.extract v 0) (.tmp 51) (.tuple #[.agg #[d0, d1, d2, d3, d4, d5], .int .i64 e]) (.agg #[d0, d1, d2, d3, d4, d5]) (fun _ => rfl) rfl (by kernel_rfl) rfl ?_
 refine wl_un (fun v => Instr.extract v 1) (.tmp 51) (.tuple #[.agg #[d0, d1, d2, d3, d4, d5], .int .i64 e]) (.int .i64 e) (fun _ => rfl) rfl (by kernel_rfl) rfl ?_
 refine wl_st 26 (.tmp 8) (.tmp 52) k3 0 #[d0, d1, d2, d3, d4, d5] _ [d0, d1, d2, d3, d4, d5] Q3 rfl rfl rfl rfl rfl sz40 hd rfl rfl ?_
 intro w12 hS Qn
 replace Q3 := Qn
 clear Qn
 replace Q1 := hS.other _ _ ne_k1_k3 Q1
 replace Q2 := hS.other _ _ ne_k2_k3 Q2
 replace Q4 := hS.other _ _ ne_k3_k4.symm Q4
 replace Q5 := hS.other _ _ ne_k3_k5.symm Q5
 replace M := hS.mo _ N_k3 M
 clear hS
 refine wl_m (.tmp 53) (.int .i64 e) ?_
 refine w_nil (xn_then (w_ret ?_))
 exact w_ret2 _ _ (.agg #[d0, d1, d2, d3, d4, d5]) (.int .i64 e) rfl ⟨k3, rfl, (run_row Q3 26 0 6 _ rfl Tryz.underlying26 rfl sz40)⟩ rfl ⟨rfl, M⟩
theorem rmulTo_ok (b c : Bool) (n m s t S p : Int) (w : World) (hn0 : 0 ≤ n) (hn : n < MM) (hm0 : 0 ≤ m) (hm : m < MM) (h1 : ck b n s = 0) (h2 : ck c m t = 0) (hb1 : 0 ≤ s ∧ s ≤ 18) (hb2 : 0 ≤ t ∧ t ≤ 18) (hS : sc S = true) (hp1 : 1 ≤ p) (hp5 : p ≤ 5) :
  Calls Tryz.prog 66 #[dc b n s, dc c m t, .int .i64 S, .int .i64 p] w fun e' w' => e' = .returned (fx (b != c) (rdV (b != c) (n * m) (s + t) S p) S) ∧ Mo w w' := by
 have bX := prod_bd hn0 hn hm0 hm
 obtain ⟨d0, d1, d2, d3, d4, d5, e, he, hd⟩ := fx_form (b != c) (rdV (b != c) (n * m) (s + t) S p) S
 have ha := fun w => round_n (b != c) (n * m) (s + t) S p w bX.1 bX.2 hS (by omega) (by omega) hp1 hp5
 rw [he] at ha ⊢
 exact rmulTo_w b c n m s t S p d0 d1 d2 d3 d4 d5 e w hn0 hn hm0 hm h1 h2 hS hp1 hp5 hb1 hb2 hd ha
end Go.Proofs.YtogomodbcjpfiaaGreatDoor

namespace Go.Proofs.YtogomodbcjpfiaaGreatDoor
open Go.RowKit Go.Lib
theorem w_cut {P : Program} {n : Nat} {l : List (Nat × Value)} {w : World} {Q : Exit → Act → World → Prop} {x y : Code} (I : List (Nat × Value) → World → Prop) (h2 : ∀ l w, I l w → WC P y Q n l w) (h : WC P x (Exit.then (fun a w' => ∃ l', a = fr n l' ∧ I l' w') Q) n l w) : WC P (Code.seq x y) Q n l w :=
 w_seq ⟨wp_mono h.out fun e a w' hq => by
  cases e with
  | normal => obtain ⟨l', rfl, hI⟩ := hq; exact (h2 l' w' hI).out
  | _ => exact hq⟩
theorem xn_cut {n : Nat} {l : List (Nat × Value)} {w : World} {Q : Exit → Act → World → Prop} {I : List (Nat × Value) → World → Prop} (h : I l w) : WX (Exit.then (fun a w' => ∃ l', a = fr n l' ∧ I l' w') Q) .normal n l w := ⟨⟨l, rfl, h⟩⟩
end Go.Proofs.YtogomodbcjpfiaaGreatDoor

namespace Go.Proofs.YtogomodbcjpfiaaGreatDoor
open Go.RowKit
theorem eq4b {a b r : Bool} (h : (a == b) = r) (x y : Operand) (w : World) : (do eqGuard .eql 4 x y (.bool a) (.bool b); binOp .eql 4 (.bool a) (.bool b)).run Tryz.prog w = .ok (.bool r) w := by subst h; kernel_rfl
end Go.Proofs.YtogomodbcjpfiaaGreatDoor

namespace Go.Proofs.YtogomodbcjpfiaaGreatDoor
open Go.RowKit
theorem ckv_k {v : VL} (h : v.ok) (c : ckv v = true) : v.k = 0 ∨ v.k = 1 ∨ v.k = 2 ∨ v.k = 3 ∨ v.k = 4 := by
 have q := congrArg VL.k (ckv_eq h c)
 unfold bareV at q
 split at q; · simp_all
 split at q; · simp_all
 split at q; · simp_all
 split at q; · simp_all
 left; exact q
theorem ldb {P : Program} {m : Sem Value} {w : World} {a b : Bool} (h : a = b) (q : m.run P w = .ok (.bool a) w) : m.run P w = .ok (.bool b) w := h ▸ q
end Go.Proofs.YtogomodbcjpfiaaGreatDoor
namespace Go.Proofs.YtogomodbcjpfiaaGreatDoor
open Go.RowKit
theorem qadd_n (b : Bool) (n s : Int) (c : Bool) (m t : Int) (w : World) (hn0 : 0 ≤ n) (hn : n < MM) (hm0 : 0 ≤ m) (hm : m < MM) (h1 : ck b n s = 0) (h2 : ck c m t = 0) : Calls Tryz.prog 64 #[dc b n s, dc c m t] w fun e9 w' => e9 = .returned (addR b n s c m t).v ∧ Mo w w' := by
 have q := radd_z (sgn b n) s (sgn c m) t w (by rw [(dz_sgn hn0 h1).2]; exact hn) (by rw [(dz_sgn hm0 h2).2]; exact hm) (ck_s h1) (ck_s h2)
 rw [dzq hn0 h1, dzq hm0 h2] at q
 rw [fz_v] at q
 exact q
theorem qsub_n (b : Bool) (n s : Int) (c : Bool) (m t : Int) (w : World) (hn0 : 0 ≤ n) (hn : n < MM) (hm0 : 0 ≤ m) (hm : m < MM) (h1 : ck b n s = 0) (h2 : ck c m t = 0) : Calls Tryz.prog 65 #[dc b n s, dc c m t] w fun e9 w' => e9 = .returned (subR b n s c m t).v ∧ Mo w w' := by
 have q := rsub_z (sgn b n) s (sgn c m) t w (by rw [(dz_sgn hn0 h1).2]; exact hn) (by rw [(dz_sgn hm0 h2).2]; exact hm) (ck_s h1) (ck_s h2)
 rw [dzq hn0 h1, dzq hm0 h2] at q
 rw [fz_v] at q
 exact q
theorem qcmp_n (b : Bool) (n s : Int) (c : Bool) (m t : Int) (w : World) (hn0 : 0 ≤ n) (hn : n < MM) (hm0 : 0 ≤ m) (hm : m < MM) (h1 : ck b n s = 0) (h2 : ck c m t = 0) : Calls Tryz.prog 67 #[dc b n s, dc c m t] w fun e9 w' => e9 = .returned (.int .i64 (cmpR b n s c m t)) ∧ Mo w w' := by
 have q := rcmpd_z (sgn b n) s (sgn c m) t w (by rw [(dz_sgn hn0 h1).2]; exact hn) (by rw [(dz_sgn hm0 h2).2]; exact hm) (ck_s h1) (ck_s h2)
 rw [dzq hn0 h1, dzq hm0 h2] at q
 exact q
theorem qmul_n (b : Bool) (n s : Int) (c : Bool) (m t : Int) (w : World) (hn0 : 0 ≤ n) (hn : n < MM) (hm0 : 0 ≤ m) (hm : m < MM) (h1 : ck b n s = 0) (h2 : ck c m t = 0) : Calls Tryz.prog 66 #[dc b n s, dc c m t, .int .i64 (min (s + t) 18), .int .i64 2] w fun e9 w' => e9 = .returned (mulR b n s c m t).v ∧ Mo w w' := by
 obtain ⟨a0, a1⟩ := sc_iff.1 (ck_s h1)
 obtain ⟨b0, b1⟩ := sc_iff.1 (ck_s h2)
 have q := rmulTo_ok b c n m s t (min (s + t) 18) 2 w hn0 hn hm0 hm h1 h2 ⟨a0, a1⟩ ⟨b0, b1⟩ (sc_iff.2 ⟨by omega, by omega⟩) (by decide) (by decide)
 rw [fx_v] at q
 exact q
theorem min_b (ρ : Operand → Value) (x : Operand) (a : Int) (hx : ρ x = .int .i64 a) (hc : ρ (.const (.int .i64 18)) = .int .i64 18) (ats : Array TypeId) (dst : Option Tmp) (type : TypeId) (pos : String) (after : Array Edge) (guard : Option (Nat × Bool)) (w : World) : (execOp ρ { dst, op := .call { callee := .builtin .min, args := #[.const (.int .i64 18), x], argTypes := ats }, type, pos, after, guard }).run Tryz.prog w = .ok (.value (.int .i64 (min a 18))) w := by
 have q : (if a < (18 : Int) then a else 18) = min a 18 := by split <;> omega
 simp [go_sem, hx, hc, Builtin.min_, Builtin.min2, q]
end Go.Proofs.YtogomodbcjpfiaaGreatDoor
namespace Go.Proofs.YtogomodbcjpfiaaGreatDoor
open Go.RowKit
theorem rflag_n (f : Bool) (w : World) : Calls Tryz.prog 37 #[.bool f] w fun e9 w' => e9 = .returned (vFl f).v ∧ Mo w w' := by
 refine w_enter 5 Tryz.func37 Tryz.ntmps37 rfl rfl ?_
 have M : Mo w w := Mo.refl _
 refine w_seq (w_reg ?_)
 refine wl_alloc 28 #[.int .i64 0, .bool false, .int .u64 0, .int .u64 0, .int .u64 0, .int .u64 0, .int .i64 0, .bool false, .string ⟨#[]⟩, .int .i64 0] rfl (fun _ => by kernel_rfl) rfl ?_
 intro k1 u1 hk hz hq Q1
 have N_k1 : w.heap.size ≤ k1 := by have := M.size; omega
 replace M := M.trans hq
 clear hk hz hq
 refine w_nil (xn_then (w_seq (w_reg ?_)))
 refine wl_m (.tmp 0) (.bool f) ?_
 refine wl_build 28 [(0, (.const (.int .i64 (2)))), (2, (.tmp 3))] [(0, .int .i64 (2)), (2, .bool f)] (.agg #[.int .i64 (2), .bool false, .int .u64 0, .int .u64 0, .int .u64 0, .int .u64 0, .int .i64 0, .bool f, .string ⟨#[]⟩, .int .i64 0]) rfl rfl (by kernel_rfl) rfl ?_
 refine wl_st 28 (.tmp 2) (.tmp 4) k1 0 #[.int .i64 (2), .bool false, .int .u64 0, .int .u64 0, .int .u64 0, .int .u64 0, .int .i64 0, .bool f, .string ⟨#[]⟩, .int .i64 0] _ [.int .i64 (2), .bool false, .int .u64 0, .int .u64 0, .int .u64 0, .int .u64 0, .int .i64 0, .bool f, .string ⟨#[]⟩, .int .i64 0] Q1 rfl rfl rfl rfl rfl sz28 rfl rfl rfl ?_
 intro u2 hS Qn
 replace Q1 := Qn
 clear Qn
 replace M := hS.mo _ N_k1 M
 clear hS
 refine w_nil (xn_then (w_ret ?_))
 exact w_ret1 _ (.agg #[.int .i64 (2), .bool false, .int .u64 0, .int .u64 0, .int .u64 0, .int .u64 0, .int .i64 0, .bool f, .string ⟨#[]⟩, .int .i64 0]) rfl ⟨k1, rfl, (run_row Q1 28 0 10 _ rfl Tryz.underlying28 rfl sz28)⟩ ⟨rfl, M⟩
end Go.Proofs.YtogomodbcjpfiaaGreatDoor

/-
  A part of the proof.
-/
import Derived.Test.YthehmmhnacomkaaKa8
import Derived.Test.YthehmmhnacomkaaKa5
import Derived.Test.YthehmmhnacomkaaKa3
import Derived.Test.YthehmmhnacomkaaKa1
import Derived.Test.YthehmmhnacomkaaProg
import Derived.WalkKit
import Derived.WalkSpells
import Derived.Handy
import Derived.BigQuiet
import Derived.Deep.RegionHeld3
import Derived.Test.YthehmmhnacomkaaKa4
import Derived.Shelf.Small.Bits
import Derived.Shelf.Strconv.Itoa0
import Derived.Shelf.Bits.Mul64
import Derived.Deep.CutBlock
import Derived.Deep.CutRange
import Derived.Test.YthehmmhnacomkaaKa7
import Derived.Test.YthehmmhnacomkaaKa6
import Derived.ChangeKeysEq
import Derived.ScopeJumps
import Derived.WalkMore
import Derived.Laws.StructEq
namespace Go.Proofs.Ythehmmhnacomkaa
open Go.RowKit
abbrev er (c : Int) : Value := .tuple #[.agg #[.bool false, .int .u64 0, .int .u64 0, .int .u64 0, .int .u64 0, .int .i64 0], .int .i64 c]
theorem cmp_m (A B : Int) (w : World) : Calls Try.prog 66 #[nv A, nv B] w fun e w' => e = .returned (.int .i64 (cm (A % MM) (B % MM))) ∧ Mo w w' := by
 have h := cmp15_any (l0 A) (l1 A) (l2 A) (l3 A) (l0 B) (l1 B) (l2 B) (l3 B) w (u4_lb A) (u4_lb B)
 rw [vl_nv, vl_nv] at h
 exact h
set_option maxHeartbeats 4000000 in
theorem fit_yes (b : Bool) (X s : Int) (w : World) (hX0 : 0 ≤ X) (hX : X < MM) :
  Calls Try.prog 72 #[.bool b, dw X, .int .i64 s] w fun e w' => e = .returned (.tuple #[dc (b && !decide (X = 0)) X s, .int .i64 0]) ∧ Mo w w' := by
 have q4 := eq4
 have e0 : X / MM = 0 := Int.ediv_eq_zero_of_lt hX0 hX
 have y0 : l0 0 = 0 := rfl
 have y1 : l1 0 = 0 := rfl
 have y2 : l2 0 = 0 := rfl
 have y3 : l3 0 = 0 := rfl
 rw [dw, e0, y0, y1, y2, y3]
 clear e0 y0 y1 y2 y3
 go_enter Try.func72, Try.ntmps72
 go_wp2_with fail
 refine (signed_n b X s _ hX0 hX).mono ?_
 rintro e w1 ⟨rfl, hm1⟩
 have m : Mo w w1 := Mo.trans (by repeat (first | with_reducible exact Mo.refl _ | with_reducible apply Mo.drew | with_reducible apply Mo.alloc)) hm1
 have M := m
 have Qr : AtD w1 (w.heap.size + 1) false 0 0 := AtD.mo ⟨by simp [go_sem, zl0, zl1, zl2, zl3], fun o => by simp [go_sem], by simp <;> omega⟩ hm1
 clear hm1 m
 have Or := Qr
 obtain ⟨⟨cr0, cr1, cr2, cr3, cr4, cr5⟩, fr, sr⟩ := Or
 have fr := fun o => fr o
 have sxr : w.heap.size + 1 < w1.heap.size + 1 := by omega
 have syr : w.heap.size + 1 < w1.heap.size + 1 + 1 := by omega
 go_wp2
 refine bodyPost_ret (v := .tuple #[dc (b && !decide (X = 0)) X s, .int .i64 0]) (by simp [results, Try.results72, go_sem, *]) rfl ?_
 refine ⟨rfl, ?_⟩
 repeat (first | with_reducible exact M | with_reducible exact Mo.refl _ | with_reducible apply Mo.drew | with_reducible apply Mo.drewN | with_reducible apply Mo.alloc | with_reducible refine Mo.setCell ?_ (by simp <;> omega) _)
set_option maxHeartbeats 4000000 in
theorem fit_no (b : Bool) (X s : Int) (w : World) (hX0 : MM ≤ X) (hX : X < MM * MM) :
  Calls Try.prog 72 #[.bool b, dw X, .int .i64 s] w fun e w' => e = .returned (er 7) ∧ Mo w w' := by
 have q4 := eq4
 have p : (0 : Int) < MM := by decide
 have z4 : (l0 (X / MM) == 0 && (l1 (X / MM) == 0 && (l2 (X / MM) == 0 && l3 (X / MM) == 0))) = false := by
  rw [zero4 (Int.ediv_nonneg (by omega) (by omega)) (Int.ediv_lt_of_lt_mul p hX)]
  refine decide_eq_false fun h => ?_
  have := Int.lt_mul_of_ediv_lt p (show X / MM < 1 by omega)
  omega
 clear p
 go_enter Try.func72, Try.ntmps72
 go_wp2
 refine bodyPost_ret (v := er 7) (by simp [results, Try.results72, go_sem, *]) rfl ?_
 refine ⟨rfl, ?_⟩
 repeat (first | with_reducible exact Mo.refl _ | with_reducible apply Mo.drew | with_reducible apply Mo.drewN | with_reducible apply Mo.alloc | with_reducible refine Mo.setCell ?_ (by simp <;> omega) _)
theorem cm_wide {X Y : Int} : cm X Y = if cm (X / MM) (Y / MM) = 0 then cm (X % MM) (Y % MM) else cm (X / MM) (Y / MM) := by
 have p : (0 : Int) < MM := by decide
 have eX := Int.mul_ediv_add_emod X MM
 have eY := Int.mul_ediv_add_emod Y MM
 have cX := Int.emod_nonneg X (show MM ≠ 0 by omega)
 have dX := Int.emod_lt_of_pos X p
 have cY := Int.emod_nonneg Y (show MM ≠ 0 by omega)
 have dY := Int.emod_lt_of_pos Y p
 unfold cm
 unfold MM at *
 split <;> split <;> split <;> (try split) <;> (try split) <;> (try split) <;> omega
set_option maxHeartbeats 4000000 in
theorem cmpDouble_n (X Y : Int) (w : World) (hX0 : 0 ≤ X) (hX : X < MM * MM) (hY0 : 0 ≤ Y) (hY : Y < MM * MM) :
  Calls Try.prog 47 #[dw X, dw Y] w fun e w' => e = .returned (.int .i64 (cm X Y)) ∧ Mo w w' := by
 have q8 := eq81
 have we := wide_eq hX0 hX hY0 hY
 have p : (0 : Int) < MM := by decide
 have a1 : X / MM % MM = X / MM := Int.emod_eq_of_lt (Int.ediv_nonneg hX0 (by omega)) (Int.ediv_lt_of_lt_mul p hX)
 have b1 : Y / MM % MM = Y / MM := Int.emod_eq_of_lt (Int.ediv_nonneg hY0 (by omega)) (Int.ediv_lt_of_lt_mul p hY)
 have A1 : Hid _ := a1
 have B1 : Hid _ := b1
 clear a1 b1 p
 by_cases h : X = Y
 ·rw [decide_eq_true h] at we
  have e : Hid (cm X Y = 0) := by show _ = _; subst h; unfold cm; simp
  clear h
  go_enter Try.func47, Try.ntmps47
  go_wp2
  go_ret
  exact ⟨by rw [e.out]; rfl, ((Mo.refl _).alloc _ _).alloc _ _⟩
 ·rw [decide_eq_false h] at we
  have e : Hid _ := cm_wide (X := X) (Y := Y)
  clear h
  go_enter Try.func47, Try.ntmps47
  go_wp2_with fail
  refine (cmp_m (X / MM) (Y / MM) _).mono ?_
  rintro e w1 ⟨rfl, hm1⟩
  rw [A1.out, B1.out]
  have m : Mo w w1 := Mo.trans (by repeat (first | with_reducible exact Mo.refl _ | with_reducible apply Mo.drew | with_reducible apply Mo.alloc)) hm1
  have M := m
  have Qx : AtW w1 (w.heap.size) X := AtW.mo ⟨by simp [go_sem], fun o => by simp [go_sem], by simp <;> omega⟩ hm1
  have Qy : AtW w1 (w.heap.size + 1) Y := AtW.mo ⟨by simp [go_sem], fun o => by simp [go_sem], by simp <;> omega⟩ hm1
  clear hm1 m
  have Ox := Qx
  obtain ⟨⟨cx0, cx1, cx2, cx3, cx4, cx5, cx6, cx7⟩, fx, sx⟩ := Ox
  have fx := fun o => fx o
  have sxx : w.heap.size < w1.heap.size + 1 := by omega
  have syx : w.heap.size < w1.heap.size + 1 + 1 := by omega
  have Oy := Qy
  obtain ⟨⟨cy0, cy1, cy2, cy3, cy4, cy5, cy6, cy7⟩, fy, sy⟩ := Oy
  have fy := fun o => fy o
  have sxy : w.heap.size + 1 < w1.heap.size + 1 := by omega
  have syy : w.heap.size + 1 < w1.heap.size + 1 + 1 := by omega
  by_cases hz : cm (X / MM) (Y / MM) = 0
  ·have hb : (cm (X / MM) (Y / MM) == 0) = true := by rw [hz]; rfl
   have e2 := e.out
   rw [if_pos hz] at e2
   have E2 : Hid _ := e2
   clear e2 hz
   go_wp2_with fail
   refine (cmp_m X Y _).mono ?_
   rintro e w2 ⟨rfl, hm2⟩
   have m : Mo w1 w2 := Mo.trans (by repeat (first | with_reducible exact Mo.refl _ | with_reducible apply Mo.drew | with_reducible apply Mo.alloc)) hm2
   clear cx0 cx1 cx2 cx3 cx4 cx5 cx6 cx7 fx sx sxx syx cy0 cy1 cy2 cy3 cy4 cy5 cy6 cy7 fy sy sxy syy
   have Qx := Qx.mo m
   have Qy := Qy.mo m
   have M := M.trans m
   clear hm2 m
   have Ox := Qx
   obtain ⟨⟨cx0, cx1, cx2, cx3, cx4, cx5, cx6, cx7⟩, fx, sx⟩ := Ox
   have fx := fun o => fx o
   have sxx : w.heap.size < w2.heap.size + 1 := by omega
   have syx : w.heap.size < w2.heap.size + 1 + 1 := by omega
   have Oy := Qy
   obtain ⟨⟨cy0, cy1, cy2, cy3, cy4, cy5, cy6, cy7⟩, fy, sy⟩ := Oy
   have fy := fun o => fy o
   have sxy : w.heap.size + 1 < w2.heap.size + 1 := by omega
   have syy : w.heap.size + 1 < w2.heap.size + 1 + 1 := by omega
   go_wp2
   go_ret
   exact ⟨by rw [E2.out]; rfl, M⟩
  ·have hb : (cm (X / MM) (Y / MM) == 0) = false := by simp [hz]
   have e2 := e.out
   rw [if_neg hz] at e2
   have E2 : Hid _ := e2
   clear e2 hz
   go_wp2
   go_ret
   exact ⟨by rw [E2.out]; rfl, M⟩
end Go.Proofs.Ythehmmhnacomkaa

namespace Go.Proofs.Ythehmmhnacomkaa
open Go.RowKit
theorem check_ok (b : Bool) (n s : Int) (w : World) (hn0 : 0 ≤ n) (hn : n < MM) (h : ck b n s = 0) : Calls Try.prog 29 #[dc b n s] w fun e w' => e = .returned (.int .i64 0) ∧ Mo w w' := by
 have := check_n b n s w hn0 hn
 rw [h] at this
 exact this
set_option maxHeartbeats 4000000 in
theorem both_ok (b : Bool) (n s : Int) (c : Bool) (m t : Int) (w : World) (hn0 : 0 ≤ n) (hn : n < MM) (hm0 : 0 ≤ m) (hm : m < MM) (h1 : ck b n s = 0) (h2 : ck c m t = 0) :
  Calls Try.prog 44 #[dc b n s, dc c m t] w fun e w' => e = .returned (.int .i64 0) ∧ Mo w w' := by
 go_enter Try.func44, Try.ntmps44
 go_wp2_with fail
 refine (check_ok b n s _ hn0 hn h1).mono ?_
 rintro e w1 ⟨rfl, hm1⟩
 have mz : Mo w w1 := Mo.trans (by repeat (first | with_reducible exact Mo.refl _ | with_reducible apply Mo.drew | with_reducible apply Mo.alloc)) hm1
 have M := mz
 have Qa : AtD w1 (w.heap.size) b n s := AtD.mo ⟨by simp [go_sem], fun o => by simp [go_sem], by simp <;> omega⟩ hm1
 have Qb : AtD w1 (w.heap.size + 1) c m t := AtD.mo ⟨by simp [go_sem], fun o => by simp [go_sem], by simp <;> omega⟩ hm1
 clear hm1 mz
 have Oa := Qa
 obtain ⟨⟨ca0, ca1, ca2, ca3, ca4, ca5⟩, fa, sa⟩ := Oa
 have fa := fun o => fa o
 have sxa : w.heap.size < w1.heap.size + 1 := by omega
 have sya : w.heap.size < w1.heap.size + 1 + 1 := by omega
 have Ob := Qb
 obtain ⟨⟨cb0, cb1, cb2, cb3, cb4, cb5⟩, fb, sb⟩ := Ob
 have fb := fun o => fb o
 have sxb : w.heap.size + 1 < w1.heap.size + 1 := by omega
 have syb : w.heap.size + 1 < w1.heap.size + 1 + 1 := by omega
 go_wp2_with fail
 refine (check_ok c m t _ hm0 hm h2).mono ?_
 rintro e w2 ⟨rfl, hm2⟩
 have mz : Mo w1 w2 := Mo.trans (by repeat (first | with_reducible exact Mo.refl _ | with_reducible apply Mo.drew | with_reducible apply Mo.alloc)) hm2
 clear ca0 ca1 ca2 ca3 ca4 ca5 fa sa sxa sya cb0 cb1 cb2 cb3 cb4 cb5 fb sb sxb syb
 have Qa := Qa.mo mz
 have Qb := Qb.mo mz
 have M := M.trans mz
 clear hm2 mz
 have Oa := Qa
 obtain ⟨⟨ca0, ca1, ca2, ca3, ca4, ca5⟩, fa, sa⟩ := Oa
 have fa := fun o => fa o
 have sxa : w.heap.size < w2.heap.size + 1 := by omega
 have sya : w.heap.size < w2.heap.size + 1 + 1 := by omega
 have Ob := Qb
 obtain ⟨⟨cb0, cb1, cb2, cb3, cb4, cb5⟩, fb, sb⟩ := Ob
 have fb := fun o => fb o
 have sxb : w.heap.size + 1 < w2.heap.size + 1 := by omega
 have syb : w.heap.size + 1 < w2.heap.size + 1 + 1 := by omega
 go_wp2
 go_ret
 exact ⟨rfl, M⟩
set_option maxHeartbeats 4000000 in
theorem neg_ok (b : Bool) (n s : Int) (w : World) (hn0 : 0 ≤ n) (hn : n < MM) (h : ck b n s = 0) :
  Calls Try.prog 69 #[dc b n s] w fun e w' => e = .returned (.tuple #[dc (!b && !decide (n = 0)) n s, .int .i64 0]) ∧ Mo w w' := by
 go_enter Try.func69, Try.ntmps69
 go_wp2_with fail
 refine (check_ok b n s _ hn0 hn h).mono ?_
 rintro e w1 ⟨rfl, hm1⟩
 have mz : Mo w w1 := Mo.trans (by repeat (first | with_reducible exact Mo.refl _ | with_reducible apply Mo.drew | with_reducible apply Mo.alloc)) hm1
 have M := mz
 have Qa : AtD w1 (w.heap.size) b n s := AtD.mo ⟨by simp [go_sem], fun o => by simp [go_sem], by simp <;> omega⟩ hm1
 have Qr : AtD w1 (w.heap.size + 1) false 0 0 := AtD.mo ⟨by simp [go_sem, zl0, zl1, zl2, zl3], fun o => by simp [go_sem], by simp <;> omega⟩ hm1
 clear hm1 mz
 have Oa := Qa
 obtain ⟨⟨ca0, ca1, ca2, ca3, ca4, ca5⟩, fa, sa⟩ := Oa
 have fa := fun o => fa o
 have sxa : w.heap.size < w1.heap.size + 1 := by omega
 have sya : w.heap.size < w1.heap.size + 1 + 1 := by omega
 have Or := Qr
 obtain ⟨⟨cr0, cr1, cr2, cr3, cr4, cr5⟩, fr, sr⟩ := Or
 have fr := fun o => fr o
 have sxr : w.heap.size + 1 < w1.heap.size + 1 := by omega
 have syr : w.heap.size + 1 < w1.heap.size + 1 + 1 := by omega
 go_wp2_with fail
 refine (signed_n (!b) n s _ hn0 hn).mono ?_
 rintro e w2 ⟨rfl, hm2⟩
 have mz : Mo w1 w2 := Mo.trans (by repeat (first | with_reducible exact Mo.refl _ | with_reducible apply Mo.drew | with_reducible apply Mo.alloc)) hm2
 clear ca0 ca1 ca2 ca3 ca4 ca5 fa sa sxa sya cr0 cr1 cr2 cr3 cr4 cr5 fr sr sxr syr
 have Qa := Qa.mo mz
 have Qr := Qr.mo mz
 have M := M.trans mz
 clear hm2 mz
 have Oa := Qa
 obtain ⟨⟨ca0, ca1, ca2, ca3, ca4, ca5⟩, fa, sa⟩ := Oa
 have fa := fun o => fa o
 have sxa : w.heap.size < w2.heap.size + 1 := by omega
 have sya : w.heap.size < w2.heap.size + 1 + 1 := by omega
 have Or := Qr
 obtain ⟨⟨cr0, cr1, cr2, cr3, cr4, cr5⟩, fr, sr⟩ := Or
 have fr := fun o => fr o
 have sxr : w.heap.size + 1 < w2.heap.size + 1 := by omega
 have syr : w.heap.size + 1 < w2.heap.size + 1 + 1 := by omega
 go_wp2
 refine bodyPost_ret (v := .tuple #[dc (!b && !decide (n = 0)) n s, .int .i64 0]) (by simp [results, Try.results69, go_sem, *]) rfl ?_
 refine ⟨rfl, ?_⟩
 repeat (first | with_reducible exact M | with_reducible exact Mo.refl _ | with_reducible apply Mo.drew | with_reducible apply Mo.drewN | with_reducible apply Mo.alloc | with_reducible refine Mo.setCell ?_ (by simp <;> omega) _)
def sg (b : Bool) (n : Int) : Int := if n = 0 then 0 else if b then -1 else 1
set_option maxHeartbeats 4000000 in
theorem sign_n (b : Bool) (n s : Int) (w : World) (hn0 : 0 ≤ n) (hn : n < MM) : Calls Try.prog 46 #[dc b n s] w fun e w' => e = .returned (.int .i64 (sg b n)) ∧ Mo w w' := by
 have q4 := eq4
 have z4 := zb hn0 hn
 cases hz : decide (n = 0) <;> cases hb : b
 all_goals
  rw [hz] at z4
  have hz2 : Hid _ := hz
  clear hz
  go_enter Try.func46, Try.ntmps46
  go_wp2
  go_ret
  exact ⟨by have := hz2.out; simp at this; simp [sg, this], (Mo.refl _).alloc _ _⟩
end Go.Proofs.Ythehmmhnacomkaa

namespace Go.Proofs.Ythehmmhnacomkaa
open Go.RowKit
theorem ten_bd (k : Nat) (h : k ≤ 77) : (0 : Int) < 10 ^ k ∧ (10 : Int) ^ k < MM := by
 refine ⟨Int.pow_pos (by decide), ?_⟩
 have h1 : (10 : Nat) ^ k ≤ 10 ^ 77 := Nat.pow_le_pow_right (by decide) h
 have h2 : (10 : Nat) ^ 77 < 115792089237316195423570985008687907853269984665640564039457584007913129639936 := by decide
 have h3 : ((10 ^ k : Nat) : Int) = (10 : Int) ^ k := by rw [Int.natCast_pow]; rfl
 rw [← h3]
 unfold MM
 omega
set_option maxHeartbeats 4000000 in
theorem lift_n (b : Bool) (n s S : Int) (k : Nat) (w : World) (hn0 : 0 ≤ n) (hn : n < MM) (hk : S - s = (k : Int)) (hk7 : k ≤ 77) :
  Calls Try.prog 48 #[dc b n s, .int .i64 S] w fun e w' => e = .returned (dw (n * 10 ^ k)) ∧ Mo w w' := by
 have wk : IntKind.i64.wrap (k : Int) = (k : Int) := by rw [IntKind.wrap_i64]; omega
 have t0 := (ten_bd k hk7).1
 have t1 := (ten_bd k hk7).2
 go_enter Try.func48, Try.ntmps48
 have a : Mo w ((((w).alloc (.cells #[.bool b, .int .u64 (l0 (n)), .int .u64 (l1 (n)), .int .u64 (l2 (n)), .int .u64 (l3 (n)), .int .i64 (s)] 33))).alloc (.cells #[.int .u64 0, .int .u64 0, .int .u64 0, .int .u64 0, .int .u64 0, .int .u64 0, .int .u64 0, .int .u64 0] 74)) := by repeat (first | with_reducible exact Mo.refl _ | with_reducible apply Mo.alloc)
 have M := a
 have Qd : AtD ((((w).alloc (.cells #[.bool b, .int .u64 (l0 (n)), .int .u64 (l1 (n)), .int .u64 (l2 (n)), .int .u64 (l3 (n)), .int .i64 (s)] 33))).alloc (.cells #[.int .u64 0, .int .u64 0, .int .u64 0, .int .u64 0, .int .u64 0, .int .u64 0, .int .u64 0, .int .u64 0] 74)) (w.heap.size) b n s := ⟨by simp [go_sem], fun o => by simp [go_sem], by simp <;> omega⟩
 have Qr : AtW ((((w).alloc (.cells #[.bool b, .int .u64 (l0 (n)), .int .u64 (l1 (n)), .int .u64 (l2 (n)), .int .u64 (l3 (n)), .int .i64 (s)] 33))).alloc (.cells #[.int .u64 0, .int .u64 0, .int .u64 0, .int .u64 0, .int .u64 0, .int .u64 0, .int .u64 0, .int .u64 0] 74)) (w.heap.size + 1) 0 := ⟨by simp [go_sem, zl0, zl1, zl2, zl3], fun o => by simp [go_sem], by simp <;> omega⟩
 clear a
 go_upto_region 1 with fail
 generalize ((((w).alloc (.cells #[.bool b, .int .u64 (l0 (n)), .int .u64 (l1 (n)), .int .u64 (l2 (n)), .int .u64 (l3 (n)), .int .i64 (s)] 33))).alloc (.cells #[.int .u64 0, .int .u64 0, .int .u64 0, .int .u64 0, .int .u64 0, .int .u64 0, .int .u64 0, .int .u64 0] 74)) = W0 at *
 have Od := Qd
 obtain ⟨⟨cd0, cd1, cd2, cd3, cd4, cd5⟩, fd, sd⟩ := Od
 have fd := fun o => fd o
 have sxd : w.heap.size < W0.heap.size + 1 := by omega
 have syd : w.heap.size < W0.heap.size + 1 + 1 := by omega
 have Or := Qr
 obtain ⟨⟨cr0, cr1, cr2, cr3, cr4, cr5, cr6, cr7⟩, fr, sr⟩ := Or
 have fr := fun o => fr o
 have sxr : w.heap.size + 1 < W0.heap.size + 1 := by omega
 have syr : w.heap.size + 1 < W0.heap.size + 1 + 1 := by omega
 go_region_with
  (first | (go_at_call 68; refine (dten_n k _ hk7).mono ?_; rintro e w1 ⟨rfl, hm1⟩; have m1 : Mo W0 w1 := Mo.trans (by repeat (first | with_reducible exact Mo.refl _ | with_reducible apply Mo.drew | with_reducible apply Mo.alloc)) hm1; have d1 := Qd.mo m1; obtain ⟨⟨x0, x1, x2, x3, x4, x5⟩, _, xs⟩ := d1; have r1 := Qr.mo m1; obtain ⟨⟨y0, y1, y2, y3, y4, y5, y6, y7⟩, yf, ys⟩ := r1; have yf := fun o => yf o) | (go_at_call 67; refine (mulDouble_n n (10 ^ k) _ hn0 hn (by omega) t1).mono ?_; rintro e w2 ⟨rfl, hm2⟩; have m2 : Mo w1 w2 := Mo.trans (by repeat (first | with_reducible exact Mo.refl _ | with_reducible apply Mo.drew | with_reducible apply Mo.alloc)) hm2; have m3 := m1.trans m2; have r2 := Qr.mo m3; obtain ⟨⟨z0, z1, z2, z3, z4, z5, z6, z7⟩, zf, zs⟩ := r2; have zf := fun o => zf o))
 all_goals
  go_wp2
  refine bodyPost_ret (v := dw (n * 10 ^ k)) (by simp [results, Try.results48, go_sem, *]) rfl ?_
  have M := M.trans m3
  refine ⟨rfl, ?_⟩
  repeat (first | with_reducible exact M | with_reducible exact Mo.refl _ | with_reducible apply Mo.drew | with_reducible apply Mo.drewN | with_reducible apply Mo.alloc | with_reducible refine Mo.setCell ?_ (by simp <;> omega) _)
end Go.Proofs.Ythehmmhnacomkaa

namespace Go.Proofs.Ythehmmhnacomkaa
open Go.RowKit
theorem add_m (A B : Int) (w : World) : Calls Try.prog 87 #[nv A, nv B] w fun e w' => e = .returned (.tuple #[nv (A % MM + B % MM), .bool (ov (A % MM + B % MM))]) ∧ Mo w w' := by
 have h := add_any (l0 A) (l1 A) (l2 A) (l3 A) (l0 B) (l1 B) (l2 B) (l3 B) w (u4_lb A) (u4_lb B)
 rw [vl_nv, vl_nv] at h
 exact h
theorem dsum {X Y : Int} (hX0 : 0 ≤ X) (hX : X < MM * MM) (hY0 : 0 ≤ Y) (hY : Y < MM * MM) :
  nv (X % MM + Y % MM) = nv (X + Y) ∧ ((ov (X % MM + Y % MM) = false ∧ nv (X / MM % MM + Y / MM % MM) = nv ((X + Y) / MM)) ∨ (ov (X % MM + Y % MM) = true ∧ nv ((X / MM % MM + Y / MM % MM) % MM + 1 % MM) = nv ((X + Y) / MM))) := by
 have p : (0 : Int) < MM := by decide
 have a1 := Int.ediv_nonneg hX0 (show (0 : Int) ≤ MM by omega)
 have a2 := Int.ediv_lt_of_lt_mul p hX
 have b1 := Int.ediv_nonneg hY0 (show (0 : Int) ≤ MM by omega)
 have b2 := Int.ediv_lt_of_lt_mul p hY
 rw [Int.emod_eq_of_lt a1 a2, Int.emod_eq_of_lt b1 b2]
 refine ⟨nv_add_mod X Y, ?_⟩
 have eX := Int.mul_ediv_add_emod X MM
 have eY := Int.mul_ediv_add_emod Y MM
 have cX := Int.emod_nonneg X (show MM ≠ 0 by omega)
 have dX := Int.emod_lt_of_pos X p
 have cY := Int.emod_nonneg Y (show MM ≠ 0 by omega)
 have dY := Int.emod_lt_of_pos Y p
 by_cases h : MM ≤ X % MM + Y % MM
 ·refine Or.inr ⟨decide_eq_true h, ?_⟩
  rw [nv_add_mod]
  congr 1
  unfold MM at *
  omega
 ·refine Or.inl ⟨decide_eq_false h, ?_⟩
  congr 1
  unfold MM at *
  omega
theorem AtW.set178 {w : World} {k j : Nat} {X : Int} (h : AtW w j X) (hk : j ≠ k) (o : Nat) (v : Value) : AtW (w.setCell ⟨k, o, none⟩ v) j X := by
 obtain ⟨⟨b0, b1, b2, b3, b4, b5, b6, b7⟩, f, s⟩ := h
 refine ⟨by simp [go_sem, *], fun o => by simp [World.frozen?_setCell, f o], by simpa [World.setCell] using s⟩
theorem dw_of78 {h l Z : Int} (h1 : nv h = nv (Z / MM)) (h2 : nv l = nv Z) : (Value.agg #[.int .u64 (l0 (h)), .int .u64 (l1 (h)), .int .u64 (l2 (h)), .int .u64 (l3 (h)), .int .u64 (l0 (l)), .int .u64 (l1 (l)), .int .u64 (l2 (l)), .int .u64 (l3 (l))]) = dw Z := by
 simp [nv] at h1 h2
 simp [h1, h2]
set_option maxHeartbeats 4000000 in
theorem addDouble_n (X Y : Int) (w : World) (hX0 : 0 ≤ X) (hX : X < MM * MM) (hY0 : 0 ≤ Y) (hY : Y < MM * MM) :
  Calls Try.prog 73 #[dw X, dw Y] w fun e w' => e = .returned (dw (X + Y)) ∧ Mo w w' := by
 obtain ⟨f1, f2⟩ := dsum hX0 hX hY0 hY
 have F1 : Hid _ := f1
 clear f1
 go_enter Try.func73, Try.ntmps73
 go_wp2_with fail
 refine (add_m X Y _).mono ?_
 rintro e w1 ⟨rfl, hm1⟩
 have m : Mo w w1 := Mo.trans (by repeat (first | with_reducible exact Mo.refl _ | with_reducible apply Mo.drew | with_reducible apply Mo.alloc)) hm1
 have M := m
 have Qx : AtW w1 (w.heap.size) X := AtW.mo ⟨by simp [go_sem], fun o => by simp [go_sem], by simp <;> omega⟩ hm1
 have Qy : AtW w1 (w.heap.size + 1) Y := AtW.mo ⟨by simp [go_sem], fun o => by simp [go_sem], by simp <;> omega⟩ hm1
 have Qr : AtW w1 (w.heap.size + 1 + 1) 0 := AtW.mo ⟨by simp [go_sem, zl0, zl1, zl2, zl3], fun o => by simp [go_sem], by simp <;> omega⟩ hm1
 clear hm1 m
 have Ox := Qx
 obtain ⟨⟨cx0, cx1, cx2, cx3, cx4, cx5, cx6, cx7⟩, fx, sx⟩ := Ox
 have fx := fun o => fx o
 have sxx : w.heap.size < w1.heap.size + 1 := by omega
 have syx : w.heap.size < w1.heap.size + 1 + 1 := by omega
 have Oy := Qy
 obtain ⟨⟨cy0, cy1, cy2, cy3, cy4, cy5, cy6, cy7⟩, fy, sy⟩ := Oy
 have fy := fun o => fy o
 have sxy : w.heap.size + 1 < w1.heap.size + 1 := by omega
 have syy : w.heap.size + 1 < w1.heap.size + 1 + 1 := by omega
 have Or := Qr
 obtain ⟨⟨cr0, cr1, cr2, cr3, cr4, cr5, cr6, cr7⟩, fr, sr⟩ := Or
 have fr := fun o => fr o
 have sxr : w.heap.size + 1 + 1 < w1.heap.size + 1 := by omega
 have syr : w.heap.size + 1 + 1 < w1.heap.size + 1 + 1 := by omega
 obtain ⟨lo, hlo⟩ : ∃ lo, lo = X % MM + Y % MM := ⟨_, rfl⟩
 rw [← hlo] at f2 F1 ⊢
 have HL : Hid _ := hlo
 clear hlo
 go_wp2_with fail
 refine (add_m (X / MM) (Y / MM) _).mono ?_
 rintro e w2 ⟨rfl, hm2⟩
 have m : Mo w1 w2 := Mo.trans (by repeat (first | with_reducible exact Mo.refl _ | with_reducible apply Mo.drew | with_reducible apply Mo.alloc)) hm2
 clear cx0 cx1 cx2 cx3 cx4 cx5 cx6 cx7 fx sx sxx syx cy0 cy1 cy2 cy3 cy4 cy5 cy6 cy7 fy sy sxy syy cr0 cr1 cr2 cr3 cr4 cr5 cr6 cr7 fr sr sxr syr
 have Qx := Qx.mo m
 have Qy := Qy.mo m
 have Qr := Qr.mo m
 have M := M.trans m
 have Ql : AtN w2 (w1.heap.size) lo := AtN.mo ⟨by simp [At4, go_sem], fun o => by simp [go_sem], by simp <;> omega⟩ hm2
 clear hm2 m
 have Ox := Qx
 obtain ⟨⟨cx0, cx1, cx2, cx3, cx4, cx5, cx6, cx7⟩, fx, sx⟩ := Ox
 have fx := fun o => fx o
 have sxx : w.heap.size < w2.heap.size + 1 := by omega
 have syx : w.heap.size < w2.heap.size + 1 + 1 := by omega
 have Oy := Qy
 obtain ⟨⟨cy0, cy1, cy2, cy3, cy4, cy5, cy6, cy7⟩, fy, sy⟩ := Oy
 have fy := fun o => fy o
 have sxy : w.heap.size + 1 < w2.heap.size + 1 := by omega
 have syy : w.heap.size + 1 < w2.heap.size + 1 + 1 := by omega
 have Or := Qr
 obtain ⟨⟨cr0, cr1, cr2, cr3, cr4, cr5, cr6, cr7⟩, fr, sr⟩ := Or
 have fr := fun o => fr o
 have sxr : w.heap.size + 1 + 1 < w2.heap.size + 1 := by omega
 have syr : w.heap.size + 1 + 1 < w2.heap.size + 1 + 1 := by omega
 have Ol := Ql
 obtain ⟨⟨cl0, cl1, cl2, cl3⟩, fl, sl⟩ := Ol
 have fl := fun o => fl o
 have sxl : w1.heap.size < w2.heap.size + 1 := by omega
 have syl : w1.heap.size < w2.heap.size + 1 + 1 := by omega
 obtain ⟨hi, hhi⟩ : ∃ hi, hi = X / MM % MM + Y / MM % MM := ⟨_, rfl⟩
 rw [← hhi] at f2 ⊢
 have HH : Hid _ := hhi
 clear hhi
 rcases f2 with ⟨g1, g2⟩ | ⟨g1, g2⟩
 ·have G2 : Hid _ := g2
  clear g2
  have a : Mo w2 ((w2).alloc (.cells #[.int .u64 (l0 (hi)), .int .u64 (l1 (hi)), .int .u64 (l2 (hi)), .int .u64 (l3 (hi))] 31)) := by repeat (first | with_reducible exact Mo.refl _ | with_reducible apply Mo.alloc)
  have zW0x := sx
  have zW0y := sy
  have zW0r := sr
  have zW0l := sl
  clear cx0 cx1 cx2 cx3 cx4 cx5 cx6 cx7 fx sx sxx syx cy0 cy1 cy2 cy3 cy4 cy5 cy6 cy7 fy sy sxy syy cr0 cr1 cr2 cr3 cr4 cr5 cr6 cr7 fr sr sxr syr cl0 cl1 cl2 cl3 fl sl sxl syl
  have Qx := Qx.mo a
  have Qy := Qy.mo a
  have Qr := Qr.mo a
  have Ql := Ql.mo a
  have M := M.trans a
  have Qh : AtN ((w2).alloc (.cells #[.int .u64 (l0 (hi)), .int .u64 (l1 (hi)), .int .u64 (l2 (hi)), .int .u64 (l3 (hi))] 31)) (w2.heap.size) hi := ⟨by simp [At4, go_sem], fun o => by simp [go_sem], by simp <;> omega⟩
  clear a
  go_upto_region 5 with fail
  generalize ((w2).alloc (.cells #[.int .u64 (l0 (hi)), .int .u64 (l1 (hi)), .int .u64 (l2 (hi)), .int .u64 (l3 (hi))] 31)) = W0 at *
  have Ox := Qx
  obtain ⟨⟨cx0, cx1, cx2, cx3, cx4, cx5, cx6, cx7⟩, fx, sx⟩ := Ox
  have fx := fun o => fx o
  have sxx : w.heap.size < W0.heap.size + 1 := by omega
  have syx : w.heap.size < W0.heap.size + 1 + 1 := by omega
  have Oy := Qy
  obtain ⟨⟨cy0, cy1, cy2, cy3, cy4, cy5, cy6, cy7⟩, fy, sy⟩ := Oy
  have fy := fun o => fy o
  have sxy : w.heap.size + 1 < W0.heap.size + 1 := by omega
  have syy : w.heap.size + 1 < W0.heap.size + 1 + 1 := by omega
  have Or := Qr
  obtain ⟨⟨cr0, cr1, cr2, cr3, cr4, cr5, cr6, cr7⟩, fr, sr⟩ := Or
  have fr := fun o => fr o
  have sxr : w.heap.size + 1 + 1 < W0.heap.size + 1 := by omega
  have syr : w.heap.size + 1 + 1 < W0.heap.size + 1 + 1 := by omega
  have Ol := Ql
  obtain ⟨⟨cl0, cl1, cl2, cl3⟩, fl, sl⟩ := Ol
  have fl := fun o => fl o
  have sxl : w1.heap.size < W0.heap.size + 1 := by omega
  have syl : w1.heap.size < W0.heap.size + 1 + 1 := by omega
  have Oh := Qh
  obtain ⟨⟨ch0, ch1, ch2, ch3⟩, fh, sh⟩ := Oh
  have fh := fun o => fh o
  have sxh : w2.heap.size < W0.heap.size + 1 := by omega
  have syh : w2.heap.size < W0.heap.size + 1 + 1 := by omega
  go_wp2
  refine bodyPost_ret (v := .agg #[.int .u64 (l0 (hi)), .int .u64 (l1 (hi)), .int .u64 (l2 (hi)), .int .u64 (l3 (hi)), .int .u64 (l0 (lo)), .int .u64 (l1 (lo)), .int .u64 (l2 (lo)), .int .u64 (l3 (lo))]) (by simp [results, Try.results73, go_sem, *]) rfl ?_
  refine ⟨by rw [dw_of78 G2.out F1.out], ?_⟩
  repeat (first | with_reducible exact M | with_reducible exact Mo.refl _ | with_reducible apply Mo.drew | with_reducible apply Mo.drewN | with_reducible apply Mo.alloc | with_reducible refine Mo.setCell ?_ (by simp <;> omega) _)
 ·have G2 : Hid _ := g2
  clear g2
  have a : Mo w2 ((w2).alloc (.cells #[.int .u64 (l0 (hi)), .int .u64 (l1 (hi)), .int .u64 (l2 (hi)), .int .u64 (l3 (hi))] 31)) := by repeat (first | with_reducible exact Mo.refl _ | with_reducible apply Mo.alloc)
  have zW0x := sx
  have zW0y := sy
  have zW0r := sr
  have zW0l := sl
  clear cx0 cx1 cx2 cx3 cx4 cx5 cx6 cx7 fx sx sxx syx cy0 cy1 cy2 cy3 cy4 cy5 cy6 cy7 fy sy sxy syy cr0 cr1 cr2 cr3 cr4 cr5 cr6 cr7 fr sr sxr syr cl0 cl1 cl2 cl3 fl sl sxl syl
  have Qx := Qx.mo a
  have Qy := Qy.mo a
  have Qr := Qr.mo a
  have Ql := Ql.mo a
  have M := M.trans a
  have Qh : AtN ((w2).alloc (.cells #[.int .u64 (l0 (hi)), .int .u64 (l1 (hi)), .int .u64 (l2 (hi)), .int .u64 (l3 (hi))] 31)) (w2.heap.size) hi := ⟨by simp [At4, go_sem], fun o => by simp [go_sem], by simp <;> omega⟩
  clear a
  go_upto_region 4 with fail
  generalize ((w2).alloc (.cells #[.int .u64 (l0 (hi)), .int .u64 (l1 (hi)), .int .u64 (l2 (hi)), .int .u64 (l3 (hi))] 31)) = W0 at *
  have Ox := Qx
  obtain ⟨⟨cx0, cx1, cx2, cx3, cx4, cx5, cx6, cx7⟩, fx, sx⟩ := Ox
  have fx := fun o => fx o
  have sxx : w.heap.size < W0.heap.size + 1 := by omega
  have syx : w.heap.size < W0.heap.size + 1 + 1 := by omega
  have Oy := Qy
  obtain ⟨⟨cy0, cy1, cy2, cy3, cy4, cy5, cy6, cy7⟩, fy, sy⟩ := Oy
  have fy := fun o => fy o
  have sxy : w.heap.size + 1 < W0.heap.size + 1 := by omega
  have syy : w.heap.size + 1 < W0.heap.size + 1 + 1 := by omega
  have Or := Qr
  obtain ⟨⟨cr0, cr1, cr2, cr3, cr4, cr5, cr6, cr7⟩, fr, sr⟩ := Or
  have fr := fun o => fr o
  have sxr : w.heap.size + 1 + 1 < W0.heap.size + 1 := by omega
  have syr : w.heap.size + 1 + 1 < W0.heap.size + 1 + 1 := by omega
  have Ol := Ql
  obtain ⟨⟨cl0, cl1, cl2, cl3⟩, fl, sl⟩ := Ol
  have fl := fun o => fl o
  have sxl : w1.heap.size < W0.heap.size + 1 := by omega
  have syl : w1.heap.size < W0.heap.size + 1 + 1 := by omega
  have Oh := Qh
  obtain ⟨⟨ch0, ch1, ch2, ch3⟩, fh, sh⟩ := Oh
  have fh := fun o => fh o
  have sxh : w2.heap.size < W0.heap.size + 1 := by omega
  have syh : w2.heap.size < W0.heap.size + 1 + 1 := by omega
  go_cut [] from 26 to 31 (fun wx => Mo w wx ∧ AtN wx w2.heap.size (hi % MM + 1 % MM) ∧ AtN wx w1.heap.size lo ∧ AtW wx (w.heap.size + 1 + 1) 0)
  case first =>
   go_region_with
    (first | (go_at_call 88; refine (from20_any 1 _ ⟨by decide, by decide⟩).mono ?_; rintro e w5 ⟨rfl, hm5⟩; have m5 : Mo W0 w5 := Mo.trans (by repeat (first | with_reducible exact Mo.refl _ | with_reducible apply Mo.drew | with_reducible apply Mo.alloc)) hm5; obtain ⟨⟨x0, x1, x2, x3⟩, _, xs⟩ := Qh.mo m5) | (go_at_call 87; refine (add_m hi 1 _).mono ?_; rintro e w6 ⟨rfl, hm6⟩; have m6 : Mo w5 w6 := Mo.trans (by repeat (first | with_reducible exact Mo.refl _ | with_reducible apply Mo.drew | with_reducible apply Mo.alloc)) hm6; have m7 := m5.trans m6; obtain ⟨⟨z0, z1, z2, z3⟩, zf, zs⟩ := Qh.mo m7; have zf := fun o => zf o))
   all_goals
    go_wp2
    go_meet
    case rel => exact ⟨(M.trans m7).st4 (by omega) _, (Qh.mo m7).same _, (Ql.mo m7).other (by omega) _, ((((Qr.mo m7).set178 (by omega) _ _).set178 (by omega) _ _).set178 (by omega) _ _).set178 (by omega) _ _⟩
  case rest =>
   clear cx0 cx1 cx2 cx3 cx4 cx5 cx6 cx7 fx sx sxx syx cy0 cy1 cy2 cy3 cy4 cy5 cy6 cy7 fy sy sxy syy cr0 cr1 cr2 cr3 cr4 cr5 cr6 cr7 fr sr sxr syr cl0 cl1 cl2 cl3 fl sl sxl syl ch0 ch1 ch2 ch3 fh sh sxh syh Qx Qy Qr Ql Qh M
   obtain ⟨M, Qh, Ql, Qr⟩ := hcut
   obtain ⟨⟨a0, a1, a2, a3⟩, _, sa⟩ := Qh
   obtain ⟨⟨b0, b1, b2, b3⟩, _, sb⟩ := Ql
   obtain ⟨⟨c0, c1, c2, c3, c4, c5, c6, c7⟩, fc, sc⟩ := Qr
   have fc := fun o => fc o
   go_wp2
   refine bodyPost_ret (v := .agg #[.int .u64 (l0 (hi % MM + 1 % MM)), .int .u64 (l1 (hi % MM + 1 % MM)), .int .u64 (l2 (hi % MM + 1 % MM)), .int .u64 (l3 (hi % MM + 1 % MM)), .int .u64 (l0 (lo)), .int .u64 (l1 (lo)), .int .u64 (l2 (lo)), .int .u64 (l3 (lo))]) (by simp [results, Try.results73, go_sem, *]) rfl ?_
   refine ⟨by rw [dw_of78 G2.out F1.out], ?_⟩
   repeat (first | with_reducible exact M | with_reducible exact Mo.refl _ | with_reducible apply Mo.drew | with_reducible apply Mo.drewN | with_reducible apply Mo.alloc | with_reducible refine Mo.setCell ?_ (by simp <;> omega) _)
end Go.Proofs.Ythehmmhnacomkaa

namespace Go.Proofs.Ythehmmhnacomkaa
open Go.RowKit
theorem sub_m (A B : Int) (w : World) : Calls Try.prog 89 #[nv A, nv B] w fun e w' => e = .returned (.tuple #[nv (A % MM - B % MM), .bool (un (A % MM - B % MM))]) ∧ Mo w w' := by
 have h := sub_any (l0 A) (l1 A) (l2 A) (l3 A) (l0 B) (l1 B) (l2 B) (l3 B) w (u4_lb A) (u4_lb B)
 rw [vl_nv, vl_nv, nv_mod] at h
 exact h
theorem ddif {X Y : Int} (hX0 : 0 ≤ X) (hX : X < MM * MM) (hY0 : 0 ≤ Y) (hY : Y < MM * MM) :
  nv (X % MM - Y % MM) = nv (X - Y) ∧ ((un (X % MM - Y % MM) = false ∧ nv (X / MM % MM - Y / MM % MM) = nv ((X - Y) / MM)) ∨ (un (X % MM - Y % MM) = true ∧ nv ((X / MM % MM - Y / MM % MM) % MM - 1 % MM) = nv ((X - Y) / MM))) := by
 have p : (0 : Int) < MM := by decide
 have a1 := Int.ediv_nonneg hX0 (show (0 : Int) ≤ MM by omega)
 have a2 := Int.ediv_lt_of_lt_mul p hX
 have b1 := Int.ediv_nonneg hY0 (show (0 : Int) ≤ MM by omega)
 have b2 := Int.ediv_lt_of_lt_mul p hY
 have em : ∀ a b : Int, nv (a % MM - b % MM) = nv (a - b) := fun a b => by rw [← nv_mod (a % MM - b % MM), ← nv_mod (a - b), ← Int.sub_emod]
 rw [Int.emod_eq_of_lt a1 a2, Int.emod_eq_of_lt b1 b2]
 refine ⟨em X Y, ?_⟩
 have eX := Int.mul_ediv_add_emod X MM
 have eY := Int.mul_ediv_add_emod Y MM
 have cX := Int.emod_nonneg X (show MM ≠ 0 by omega)
 have dX := Int.emod_lt_of_pos X p
 have cY := Int.emod_nonneg Y (show MM ≠ 0 by omega)
 have dY := Int.emod_lt_of_pos Y p
 by_cases h : X % MM - Y % MM < 0
 ·refine Or.inr ⟨decide_eq_true h, ?_⟩
  rw [em]
  congr 1
  unfold MM at *
  omega
 ·refine Or.inl ⟨decide_eq_false h, ?_⟩
  congr 1
  unfold MM at *
  omega
theorem AtW.set180 {w : World} {k j : Nat} {X : Int} (h : AtW w j X) (hk : j ≠ k) (o : Nat) (v : Value) : AtW (w.setCell ⟨k, o, none⟩ v) j X := by
 obtain ⟨⟨b0, b1, b2, b3, b4, b5, b6, b7⟩, f, s⟩ := h
 refine ⟨by simp [go_sem, *], fun o => by simp [World.frozen?_setCell, f o], by simpa [World.setCell] using s⟩
theorem dw_of80 {h l Z : Int} (h1 : nv h = nv (Z / MM)) (h2 : nv l = nv Z) : (Value.agg #[.int .u64 (l0 (h)), .int .u64 (l1 (h)), .int .u64 (l2 (h)), .int .u64 (l3 (h)), .int .u64 (l0 (l)), .int .u64 (l1 (l)), .int .u64 (l2 (l)), .int .u64 (l3 (l))]) = dw Z := by
 simp [nv] at h1 h2
 simp [h1, h2]
set_option maxHeartbeats 4000000 in
theorem subDouble_n (X Y : Int) (w : World) (hX0 : 0 ≤ X) (hX : X < MM * MM) (hY0 : 0 ≤ Y) (hY : Y < MM * MM) :
  Calls Try.prog 74 #[dw X, dw Y] w fun e w' => e = .returned (dw (X - Y)) ∧ Mo w w' := by
 obtain ⟨f1, f2⟩ := ddif hX0 hX hY0 hY
 have F1 : Hid _ := f1
 clear f1
 go_enter Try.func74, Try.ntmps74
 go_wp2_with fail
 refine (sub_m X Y _).mono ?_
 rintro e w1 ⟨rfl, hm1⟩
 have m : Mo w w1 := Mo.trans (by repeat (first | with_reducible exact Mo.refl _ | with_reducible apply Mo.drew | with_reducible apply Mo.alloc)) hm1
 have M := m
 have Qx : AtW w1 (w.heap.size) X := AtW.mo ⟨by simp [go_sem], fun o => by simp [go_sem], by simp <;> omega⟩ hm1
 have Qy : AtW w1 (w.heap.size + 1) Y := AtW.mo ⟨by simp [go_sem], fun o => by simp [go_sem], by simp <;> omega⟩ hm1
 have Qr : AtW w1 (w.heap.size + 1 + 1) 0 := AtW.mo ⟨by simp [go_sem, zl0, zl1, zl2, zl3], fun o => by simp [go_sem], by simp <;> omega⟩ hm1
 clear hm1 m
 have Ox := Qx
 obtain ⟨⟨cx0, cx1, cx2, cx3, cx4, cx5, cx6, cx7⟩, fx, sx⟩ := Ox
 have fx := fun o => fx o
 have sxx : w.heap.size < w1.heap.size + 1 := by omega
 have syx : w.heap.size < w1.heap.size + 1 + 1 := by omega
 have Oy := Qy
 obtain ⟨⟨cy0, cy1, cy2, cy3, cy4, cy5, cy6, cy7⟩, fy, sy⟩ := Oy
 have fy := fun o => fy o
 have sxy : w.heap.size + 1 < w1.heap.size + 1 := by omega
 have syy : w.heap.size + 1 < w1.heap.size + 1 + 1 := by omega
 have Or := Qr
 obtain ⟨⟨cr0, cr1, cr2, cr3, cr4, cr5, cr6, cr7⟩, fr, sr⟩ := Or
 have fr := fun o => fr o
 have sxr : w.heap.size + 1 + 1 < w1.heap.size + 1 := by omega
 have syr : w.heap.size + 1 + 1 < w1.heap.size + 1 + 1 := by omega
 obtain ⟨lo, hlo⟩ : ∃ lo, lo = X % MM - Y % MM := ⟨_, rfl⟩
 rw [← hlo] at f2 F1 ⊢
 have HL : Hid _ := hlo
 clear hlo
 go_wp2_with fail
 refine (sub_m (X / MM) (Y / MM) _).mono ?_
 rintro e w2 ⟨rfl, hm2⟩
 have m : Mo w1 w2 := Mo.trans (by repeat (first | with_reducible exact Mo.refl _ | with_reducible apply Mo.drew | with_reducible apply Mo.alloc)) hm2
 clear cx0 cx1 cx2 cx3 cx4 cx5 cx6 cx7 fx sx sxx syx cy0 cy1 cy2 cy3 cy4 cy5 cy6 cy7 fy sy sxy syy cr0 cr1 cr2 cr3 cr4 cr5 cr6 cr7 fr sr sxr syr
 have Qx := Qx.mo m
 have Qy := Qy.mo m
 have Qr := Qr.mo m
 have M := M.trans m
 have Ql : AtN w2 (w1.heap.size) lo := AtN.mo ⟨by simp [At4, go_sem], fun o => by simp [go_sem], by simp <;> omega⟩ hm2
 clear hm2 m
 have Ox := Qx
 obtain ⟨⟨cx0, cx1, cx2, cx3, cx4, cx5, cx6, cx7⟩, fx, sx⟩ := Ox
 have fx := fun o => fx o
 have sxx : w.heap.size < w2.heap.size + 1 := by omega
 have syx : w.heap.size < w2.heap.size + 1 + 1 := by omega
 have Oy := Qy
 obtain ⟨⟨cy0, cy1, cy2, cy3, cy4, cy5, cy6, cy7⟩, fy, sy⟩ := Oy
 have fy := fun o => fy o
 have sxy : w.heap.size + 1 < w2.heap.size + 1 := by omega
 have syy : w.heap.size + 1 < w2.heap.size + 1 + 1 := by omega
 have Or := Qr
 obtain ⟨⟨cr0, cr1, cr2, cr3, cr4, cr5, cr6, cr7⟩, fr, sr⟩ := Or
 have fr := fun o => fr o
 have sxr : w.heap.size + 1 + 1 < w2.heap.size + 1 := by omega
 have syr : w.heap.size + 1 + 1 < w2.heap.size + 1 + 1 := by omega
 have Ol := Ql
 obtain ⟨⟨cl0, cl1, cl2, cl3⟩, fl, sl⟩ := Ol
 have fl := fun o => fl o
 have sxl : w1.heap.size < w2.heap.size + 1 := by omega
 have syl : w1.heap.size < w2.heap.size + 1 + 1 := by omega
 obtain ⟨hi, hhi⟩ : ∃ hi, hi = X / MM % MM - Y / MM % MM := ⟨_, rfl⟩
 rw [← hhi] at f2 ⊢
 have HH : Hid _ := hhi
 clear hhi
 rcases f2 with ⟨g1, g2⟩ | ⟨g1, g2⟩
 ·have G2 : Hid _ := g2
  clear g2
  have a : Mo w2 ((w2).alloc (.cells #[.int .u64 (l0 (hi)), .int .u64 (l1 (hi)), .int .u64 (l2 (hi)), .int .u64 (l3 (hi))] 31)) := by repeat (first | with_reducible exact Mo.refl _ | with_reducible apply Mo.alloc)
  have zW0x := sx
  have zW0y := sy
  have zW0r := sr
  have zW0l := sl
  clear cx0 cx1 cx2 cx3 cx4 cx5 cx6 cx7 fx sx sxx syx cy0 cy1 cy2 cy3 cy4 cy5 cy6 cy7 fy sy sxy syy cr0 cr1 cr2 cr3 cr4 cr5 cr6 cr7 fr sr sxr syr cl0 cl1 cl2 cl3 fl sl sxl syl
  have Qx := Qx.mo a
  have Qy := Qy.mo a
  have Qr := Qr.mo a
  have Ql := Ql.mo a
  have M := M.trans a
  have Qh : AtN ((w2).alloc (.cells #[.int .u64 (l0 (hi)), .int .u64 (l1 (hi)), .int .u64 (l2 (hi)), .int .u64 (l3 (hi))] 31)) (w2.heap.size) hi := ⟨by simp [At4, go_sem], fun o => by simp [go_sem], by simp <;> omega⟩
  clear a
  go_upto_region 5 with fail
  generalize ((w2).alloc (.cells #[.int .u64 (l0 (hi)), .int .u64 (l1 (hi)), .int .u64 (l2 (hi)), .int .u64 (l3 (hi))] 31)) = W0 at *
  have Ox := Qx
  obtain ⟨⟨cx0, cx1, cx2, cx3, cx4, cx5, cx6, cx7⟩, fx, sx⟩ := Ox
  have fx := fun o => fx o
  have sxx : w.heap.size < W0.heap.size + 1 := by omega
  have syx : w.heap.size < W0.heap.size + 1 + 1 := by omega
  have Oy := Qy
  obtain ⟨⟨cy0, cy1, cy2, cy3, cy4, cy5, cy6, cy7⟩, fy, sy⟩ := Oy
  have fy := fun o => fy o
  have sxy : w.heap.size + 1 < W0.heap.size + 1 := by omega
  have syy : w.heap.size + 1 < W0.heap.size + 1 + 1 := by omega
  have Or := Qr
  obtain ⟨⟨cr0, cr1, cr2, cr3, cr4, cr5, cr6, cr7⟩, fr, sr⟩ := Or
  have fr := fun o => fr o
  have sxr : w.heap.size + 1 + 1 < W0.heap.size + 1 := by omega
  have syr : w.heap.size + 1 + 1 < W0.heap.size + 1 + 1 := by omega
  have Ol := Ql
  obtain ⟨⟨cl0, cl1, cl2, cl3⟩, fl, sl⟩ := Ol
  have fl := fun o => fl o
  have sxl : w1.heap.size < W0.heap.size + 1 := by omega
  have syl : w1.heap.size < W0.heap.size + 1 + 1 := by omega
  have Oh := Qh
  obtain ⟨⟨ch0, ch1, ch2, ch3⟩, fh, sh⟩ := Oh
  have fh := fun o => fh o
  have sxh : w2.heap.size < W0.heap.size + 1 := by omega
  have syh : w2.heap.size < W0.heap.size + 1 + 1 := by omega
  go_wp2
  refine bodyPost_ret (v := .agg #[.int .u64 (l0 (hi)), .int .u64 (l1 (hi)), .int .u64 (l2 (hi)), .int .u64 (l3 (hi)), .int .u64 (l0 (lo)), .int .u64 (l1 (lo)), .int .u64 (l2 (lo)), .int .u64 (l3 (lo))]) (by simp [results, Try.results74, go_sem, *]) rfl ?_
  refine ⟨by rw [dw_of80 G2.out F1.out], ?_⟩
  repeat (first | with_reducible exact M | with_reducible exact Mo.refl _ | with_reducible apply Mo.drew | with_reducible apply Mo.drewN | with_reducible apply Mo.alloc | with_reducible refine Mo.setCell ?_ (by simp <;> omega) _)
 ·have G2 : Hid _ := g2
  clear g2
  have a : Mo w2 ((w2).alloc (.cells #[.int .u64 (l0 (hi)), .int .u64 (l1 (hi)), .int .u64 (l2 (hi)), .int .u64 (l3 (hi))] 31)) := by repeat (first | with_reducible exact Mo.refl _ | with_reducible apply Mo.alloc)
  have zW0x := sx
  have zW0y := sy
  have zW0r := sr
  have zW0l := sl
  clear cx0 cx1 cx2 cx3 cx4 cx5 cx6 cx7 fx sx sxx syx cy0 cy1 cy2 cy3 cy4 cy5 cy6 cy7 fy sy sxy syy cr0 cr1 cr2 cr3 cr4 cr5 cr6 cr7 fr sr sxr syr cl0 cl1 cl2 cl3 fl sl sxl syl
  have Qx := Qx.mo a
  have Qy := Qy.mo a
  have Qr := Qr.mo a
  have Ql := Ql.mo a
  have M := M.trans a
  have Qh : AtN ((w2).alloc (.cells #[.int .u64 (l0 (hi)), .int .u64 (l1 (hi)), .int .u64 (l2 (hi)), .int .u64 (l3 (hi))] 31)) (w2.heap.size) hi := ⟨by simp [At4, go_sem], fun o => by simp [go_sem], by simp <;> omega⟩
  clear a
  go_upto_region 4 with fail
  generalize ((w2).alloc (.cells #[.int .u64 (l0 (hi)), .int .u64 (l1 (hi)), .int .u64 (l2 (hi)), .int .u64 (l3 (hi))] 31)) = W0 at *
  have Ox := Qx
  obtain ⟨⟨cx0, cx1, cx2, cx3, cx4, cx5, cx6, cx7⟩, fx, sx⟩ := Ox
  have fx := fun o => fx o
  have sxx : w.heap.size < W0.heap.size + 1 := by omega
  have syx : w.heap.size < W0.heap.size + 1 + 1 := by omega
  have Oy := Qy
  obtain ⟨⟨cy0, cy1, cy2, cy3, cy4, cy5, cy6, cy7⟩, fy, sy⟩ := Oy
  have fy := fun o => fy o
  have sxy : w.heap.size + 1 < W0.heap.size + 1 := by omega
  have syy : w.heap.size + 1 < W0.heap.size + 1 + 1 := by omega
  have Or := Qr
  obtain ⟨⟨cr0, cr1, cr2, cr3, cr4, cr5, cr6, cr7⟩, fr, sr⟩ := Or
  have fr := fun o => fr o
  have sxr : w.heap.size + 1 + 1 < W0.heap.size + 1 := by omega
  have syr : w.heap.size + 1 + 1 < W0.heap.size + 1 + 1 := by omega
  have Ol := Ql
  obtain ⟨⟨cl0, cl1, cl2, cl3⟩, fl, sl⟩ := Ol
  have fl := fun o => fl o
  have sxl : w1.heap.size < W0.heap.size + 1 := by omega
  have syl : w1.heap.size < W0.heap.size + 1 + 1 := by omega
  have Oh := Qh
  obtain ⟨⟨ch0, ch1, ch2, ch3⟩, fh, sh⟩ := Oh
  have fh := fun o => fh o
  have sxh : w2.heap.size < W0.heap.size + 1 := by omega
  have syh : w2.heap.size < W0.heap.size + 1 + 1 := by omega
  go_cut [] from 26 to 31 (fun wx => Mo w wx ∧ AtN wx w2.heap.size (hi % MM - 1 % MM) ∧ AtN wx w1.heap.size lo ∧ AtW wx (w.heap.size + 1 + 1) 0)
  case first =>
   go_region_with
    (first | (go_at_call 88; refine (from20_any 1 _ ⟨by decide, by decide⟩).mono ?_; rintro e w5 ⟨rfl, hm5⟩; have m5 : Mo W0 w5 := Mo.trans (by repeat (first | with_reducible exact Mo.refl _ | with_reducible apply Mo.drew | with_reducible apply Mo.alloc)) hm5; obtain ⟨⟨x0, x1, x2, x3⟩, _, xs⟩ := Qh.mo m5) | (go_at_call 89; refine (sub_m hi 1 _).mono ?_; rintro e w6 ⟨rfl, hm6⟩; have m6 : Mo w5 w6 := Mo.trans (by repeat (first | with_reducible exact Mo.refl _ | with_reducible apply Mo.drew | with_reducible apply Mo.alloc)) hm6; have m7 := m5.trans m6; obtain ⟨⟨z0, z1, z2, z3⟩, zf, zs⟩ := Qh.mo m7; have zf := fun o => zf o))
   all_goals
    go_wp2
    go_meet
    case rel => exact ⟨(M.trans m7).st4 (by omega) _, (Qh.mo m7).same _, (Ql.mo m7).other (by omega) _, ((((Qr.mo m7).set180 (by omega) _ _).set180 (by omega) _ _).set180 (by omega) _ _).set180 (by omega) _ _⟩
  case rest =>
   clear cx0 cx1 cx2 cx3 cx4 cx5 cx6 cx7 fx sx sxx syx cy0 cy1 cy2 cy3 cy4 cy5 cy6 cy7 fy sy sxy syy cr0 cr1 cr2 cr3 cr4 cr5 cr6 cr7 fr sr sxr syr cl0 cl1 cl2 cl3 fl sl sxl syl ch0 ch1 ch2 ch3 fh sh sxh syh Qx Qy Qr Ql Qh M
   obtain ⟨M, Qh, Ql, Qr⟩ := hcut
   obtain ⟨⟨a0, a1, a2, a3⟩, _, sa⟩ := Qh
   obtain ⟨⟨b0, b1, b2, b3⟩, _, sb⟩ := Ql
   obtain ⟨⟨c0, c1, c2, c3, c4, c5, c6, c7⟩, fc, sc⟩ := Qr
   have fc := fun o => fc o
   go_wp2
   refine bodyPost_ret (v := .agg #[.int .u64 (l0 (hi % MM - 1 % MM)), .int .u64 (l1 (hi % MM - 1 % MM)), .int .u64 (l2 (hi % MM - 1 % MM)), .int .u64 (l3 (hi % MM - 1 % MM)), .int .u64 (l0 (lo)), .int .u64 (l1 (lo)), .int .u64 (l2 (lo)), .int .u64 (l3 (lo))]) (by simp [results, Try.results74, go_sem, *]) rfl ?_
   refine ⟨by rw [dw_of80 G2.out F1.out], ?_⟩
   repeat (first | with_reducible exact M | with_reducible exact Mo.refl _ | with_reducible apply Mo.drew | with_reducible apply Mo.drewN | with_reducible apply Mo.alloc | with_reducible refine Mo.setCell ?_ (by simp <;> omega) _)
end Go.Proofs.Ythehmmhnacomkaa

namespace Go.Proofs.Ythehmmhnacomkaa
open Go.RowKit
def ab (v : Int) : Int := if v < 0 then -v else v
abbrev dz (v s : Int) : Value := dc (decide (v < 0)) (ab v) s
theorem ab_nn (v : Int) : 0 ≤ ab v := by unfold ab; split <;> omega
theorem ck_dz {v s : Int} (h : sc s = true) : ck (decide (v < 0)) (ab v) s = 0 := by
 unfold ck
 rw [h]
 have : (decide (v < 0) && decide (ab v = 0)) = false := by
  unfold ab
  by_cases hv : v < 0
  ·rw [if_pos hv, decide_eq_false (p := -v = 0) (by omega)]; simp
  ·rw [decide_eq_false hv]; rfl
 rw [this]; rfl
theorem sc_iff {s : Int} : sc s = true ↔ 0 ≤ s ∧ s ≤ 18 := by unfold sc; simp
def fz (v s : Int) : Value := if ab v < MM then .tuple #[dz v s, .int .i64 0] else er 7
theorem fit_z (b : Bool) (X s v : Int) (w : World) (hX : X = ab v) (hX2 : X < MM * MM) (hb : X ≠ 0 → b = decide (v < 0)) :
  Calls Try.prog 72 #[.bool b, dw X, .int .i64 s] w fun e w' => e = .returned (fz v s) ∧ Mo w w' := by
 have h0 := ab_nn v
 unfold fz
 subst hX
 by_cases h : ab v < MM
 ·rw [if_pos h]
  have e : (b && !decide (ab v = 0)) = decide (v < 0) := by
   by_cases hz : ab v = 0
   ·rw [decide_eq_true hz, decide_eq_false (p := v < 0) (by unfold ab at hz; split at hz <;> omega)]; simp
   ·rw [decide_eq_false hz, hb hz]; simp
  have hh := fit_yes b (ab v) s w h0 h
  rw [e] at hh
  exact hh
 ·rw [if_neg h]
  exact fit_no b (ab v) s w (by omega) hX2
end Go.Proofs.Ythehmmhnacomkaa


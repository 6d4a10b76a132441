/-
  A part of the proof.
-/
import Derived.Test.YthfemlhmnjfjiaaC1
import Derived.Laws.StructEq
import Derived.Deep.MidRow
import Derived.LoopN
import Derived.BigCall
/-
 == of decimals and of numbers of twice as many bits.
-/
namespace Go.Proofs.Ythfemlhmnjfjiaa
open Go.RowKit
theorem eq4d (d : Nat) (a b c e f g h i : Int) (w : World) : (Op.equalIn (d + 1 + 1) 38 (.agg #[.int .u64 a, .int .u64 b, .int .u64 c, .int .u64 e]) (.agg #[.int .u64 f, .int .u64 g, .int .u64 h, .int .u64 i])).run Try.prog w = .ok (a == f && (b == g && (c == h && e == i))) w := by
 obtain ⟨j, hj⟩ := info22
 rw [run_equalIn_array w (d + 1) _ _ Try.underlying38 hj, cells22]
 have q : ∀ (x y : Int), (Op.equalIn (d + 1) 34 (.int .u64 x) (.int .u64 y)).run Try.prog w = .ok (x == y) w := fun x y => run_equalIn_int w d 34 .u64 .u64 x y Try.underlying34
 rw [show List.range 4 = [0, 1, 2, 3] from rfl]
 cases ha : a == f <;> cases hb : b == g <;> cases hc : c == h <;> cases hd : e == i <;> simp [Op.eqItems, Sem.run_bind, part0, part1, part2, part3, Result.andThen_ok, q, ha, hb, hc, hd, Sem.run_pure]
theorem ht40 : Try.prog.underlying 40 = some (.struct (Try.prog.fieldsOf 40)) := by kernel_rfl
theorem ht81 : Try.prog.underlying 136 = some (.struct (Try.prog.fieldsOf 136)) := by kernel_rfl
theorem hp40 : Try.prog.stoodInHeld 40 = false := by kernel_rfl
theorem hp81 : Try.prog.stoodInHeld 136 = false := by kernel_rfl
theorem fo40 : (Try.prog.fieldsOf 40).toList.map (fun f => (f.name, f.type, f.offset)) = [("Neg", 4, 0), ("N", 38, 1), ("Scale", 3, 5)] := by kernel_rfl
theorem fo81 : (Try.prog.fieldsOf 136).toList.map (fun f => (f.name, f.type, f.offset)) = [("high", 38, 0), ("low", 38, 4)] := by kernel_rfl
theorem pt40 (x0 x1 x2 x3 x4 x5 : Value) (w : World) : (part 4 #[x0, x1, x2, x3, x4, x5] 0).run Try.prog w = .ok x0 w := by kernel_rfl
theorem pt41 (x0 x1 x2 x3 x4 x5 : Value) (w : World) : (part 38 #[x0, x1, x2, x3, x4, x5] 1).run Try.prog w = .ok (.agg #[x1, x2, x3, x4]) w := by kernel_rfl
theorem pt45 (x0 x1 x2 x3 x4 x5 : Value) (w : World) : (part 3 #[x0, x1, x2, x3, x4, x5] 5).run Try.prog w = .ok x5 w := by kernel_rfl
theorem pt80 (x0 x1 x2 x3 x4 x5 x6 x7 : Value) (w : World) : (part 38 #[x0, x1, x2, x3, x4, x5, x6, x7] 0).run Try.prog w = .ok (.agg #[x0, x1, x2, x3]) w := by kernel_rfl
theorem pt84 (x0 x1 x2 x3 x4 x5 x6 x7 : Value) (w : World) : (part 38 #[x0, x1, x2, x3, x4, x5, x6, x7] 4).run Try.prog w = .ok (.agg #[x4, x5, x6, x7]) w := by kernel_rfl
theorem eq81n (a0 a1 a2 a3 a4 a5 a6 a7 b0 b1 b2 b3 b4 b5 b6 b7 : Int) (w : World) : (Op.equalIn 10000 136 (.agg #[.int .u64 a0, .int .u64 a1, .int .u64 a2, .int .u64 a3, .int .u64 a4, .int .u64 a5, .int .u64 a6, .int .u64 a7]) (.agg #[.int .u64 b0, .int .u64 b1, .int .u64 b2, .int .u64 b3, .int .u64 b4, .int .u64 b5, .int .u64 b6, .int .u64 b7])).run Try.prog w = .ok ((a0 == b0 && (a1 == b1 && (a2 == b2 && a3 == b3))) && (a4 == b4 && (a5 == b5 && (a6 == b6 && a7 == b7)))) w := by
 rw [show (10000 : Nat) = 9999 + 1 from rfl, run_equalIn_struct w 9999 136 _ _ ht81 hp81]
 have h := fo81
 generalize (Try.prog.fieldsOf 136).toList = L at h
 have hl : L.length = 2 := by have := congrArg List.length h; simpa using this
 match L, hl with
 | [f0, f1], _ =>
  simp at h
  obtain ⟨⟨x0, x1, x2⟩, ⟨y0, y1, y2⟩⟩ := h
  have q1 := eq4d 9997 a0 a1 a2 a3 b0 b1 b2 b3 w
  have q2 := eq4d 9997 a4 a5 a6 a7 b4 b5 b6 b7 w
  generalize hz : (a0 == b0 && (a1 == b1 && (a2 == b2 && a3 == b3))) = z at q1 ⊢
  generalize hz : (a4 == b4 && (a5 == b5 && (a6 == b6 && a7 == b7))) = y at q2 ⊢
  simp only [Op.eqFields, x0, x1, x2, y0, y1, y2]
  cases z <;> cases y <;> simp [Sem.run_bind, pt80, pt84, Result.andThen_ok, q1, q2, Sem.run_pure]
theorem limbs_eq {n m : Int} (hn0 : 0 ≤ n) (hn : n < MM) (hm0 : 0 ≤ m) (hm : m < MM) : (l0 n == l0 m && (l1 n == l1 m && (l2 n == l2 m && l3 n == l3 m))) = decide (n = m) := by
 rw [Bool.eq_iff_iff]
 simp
 constructor
 ·rintro ⟨a, b, c, d⟩; exact nv_inj hn0 hn hm0 hm ⟨a, b, c, d⟩
 ·rintro rfl; exact ⟨rfl, rfl, rfl, rfl⟩
theorem l0_mod (n : Int) : l0 (n % MM) = l0 n := by unfold l0 MM; omega
theorem l1_mod (n : Int) : l1 (n % MM) = l1 n := by unfold l1 MM; omega
theorem l2_mod (n : Int) : l2 (n % MM) = l2 n := by unfold l2 MM; omega
theorem l3_mod (n : Int) : l3 (n % MM) = l3 n := by unfold l3 MM; omega
theorem wide_eqn {X Y : Int} (hX0 : 0 ≤ X) (hX : X < MM * MM) (hY0 : 0 ≤ Y) (hY : Y < MM * MM) : ((l0 (X / MM) == l0 (Y / MM) && (l1 (X / MM) == l1 (Y / MM) && (l2 (X / MM) == l2 (Y / MM) && l3 (X / MM) == l3 (Y / MM)))) && (l0 X == l0 Y && (l1 X == l1 Y && (l2 X == l2 Y && l3 X == l3 Y)))) = decide (X = Y) := by
 have p : (0 : Int) < MM := by decide
 rw [limbs_eq (Int.ediv_nonneg hX0 (by omega)) (Int.ediv_lt_of_lt_mul p hX) (Int.ediv_nonneg hY0 (by omega)) (Int.ediv_lt_of_lt_mul p hY), ← l0_mod X, ← l1_mod X, ← l2_mod X, ← l3_mod X, ← l0_mod Y, ← l1_mod Y, ← l2_mod Y, ← l3_mod Y, limbs_eq (Int.emod_nonneg _ (by omega)) (Int.emod_lt_of_pos _ p) (Int.emod_nonneg _ (by omega)) (Int.emod_lt_of_pos _ p)]
 rw [Bool.eq_iff_iff]
 simp
 constructor
 ·rintro ⟨a, b⟩
  rw [← Int.mul_ediv_add_emod X MM, ← Int.mul_ediv_add_emod Y MM, a, b]
 ·rintro rfl; exact ⟨rfl, rfl⟩
theorem eq81 (a0 a1 a2 a3 a4 a5 a6 a7 b0 b1 b2 b3 b4 b5 b6 b7 : Int) (w : World) : (Op.equalIn 10000 136 (.agg #[.int .u64 a0, .int .u64 a1, .int .u64 a2, .int .u64 a3, .int .u64 a4, .int .u64 a5, .int .u64 a6, .int .u64 a7]) (.agg #[.int .u64 b0, .int .u64 b1, .int .u64 b2, .int .u64 b3, .int .u64 b4, .int .u64 b5, .int .u64 b6, .int .u64 b7])).run Try.prog w = .ok (a0 == b0 && (a1 == b1 && (a2 == b2 && (a3 == b3 && (a4 == b4 && (a5 == b5 && (a6 == b6 && a7 == b7))))))) w := by
 rw [eq81n]; simp only [Bool.and_assoc]
theorem wide_eq {X Y : Int} (hX0 : 0 ≤ X) (hX : X < MM * MM) (hY0 : 0 ≤ Y) (hY : Y < MM * MM) : (l0 (X / MM) == l0 (Y / MM) && (l1 (X / MM) == l1 (Y / MM) && (l2 (X / MM) == l2 (Y / MM) && (l3 (X / MM) == l3 (Y / MM) && (l0 X == l0 Y && (l1 X == l1 Y && (l2 X == l2 Y && l3 X == l3 Y))))))) = decide (X = Y) := by
 rw [← wide_eqn hX0 hX hY0 hY]; simp only [Bool.and_assoc]
end Go.Proofs.Ythfemlhmnjfjiaa

/-
 decimal.fit and cmpDouble: the walks.
-/
namespace Go.Proofs.Ythfemlhmnjfjiaa
open Go.RowKit
abbrev er (c : Int) : Value := .tuple #[.agg #[.bool false, .int .u64 0, .int .u64 0, .int .u64 0, .int .u64 0, .int .i64 0], .int .i64 c]
theorem cmp_m (A B : Int) (w : World) : Calls Try.prog 92 #[nv A, nv B] w fun e w' => e = .returned (.int .i64 (cm (A % MM) (B % MM))) ∧ Mo w w' := by
 have h := cmp15_any (l0 A) (l1 A) (l2 A) (l3 A) (l0 B) (l1 B) (l2 B) (l3 B) w (u4_lb A) (u4_lb B)
 rw [vl_nv, vl_nv] at h
 exact h
theorem cm_wide {X Y : Int} : cm X Y = if cm (X / MM) (Y / MM) = 0 then cm (X % MM) (Y % MM) else cm (X / MM) (Y / MM) := by
 have p : (0 : Int) < MM := by decide
 have eX := Int.mul_ediv_add_emod X MM
 have eY := Int.mul_ediv_add_emod Y MM
 have cX := Int.emod_nonneg X (show MM ≠ 0 by omega)
 have dX := Int.emod_lt_of_pos X p
 have cY := Int.emod_nonneg Y (show MM ≠ 0 by omega)
 have dY := Int.emod_lt_of_pos Y p
 unfold cm
 unfold MM at *
 split <;> split <;> split <;> (try split) <;> (try split) <;> (try split) <;> omega
set_option maxHeartbeats 4000000 in
theorem cmpDouble_n (X Y : Int) (w : World) (hX0 : 0 ≤ X) (hX : X < MM * MM) (hY0 : 0 ≤ Y) (hY : Y < MM * MM) :
  Calls Try.prog 86 #[dw X, dw Y] w fun e w' => e = .returned (.int .i64 (cm X Y)) ∧ Mo w w' := by
 have q8 := eq81
 have we := wide_eq hX0 hX hY0 hY
 have p : (0 : Int) < MM := by decide
 have a1 : X / MM % MM = X / MM := Int.emod_eq_of_lt (Int.ediv_nonneg hX0 (by omega)) (Int.ediv_lt_of_lt_mul p hX)
 have b1 : Y / MM % MM = Y / MM := Int.emod_eq_of_lt (Int.ediv_nonneg hY0 (by omega)) (Int.ediv_lt_of_lt_mul p hY)
 have A1 : Hid _ := a1
 have B1 : Hid _ := b1
 clear a1 b1 p
 by_cases h : X = Y
 ·rw [decide_eq_true h] at we
  have e : Hid (cm X Y = 0) := by show _ = _; subst h; unfold cm; simp
  clear h
  go_enter Try.func86, Try.ntmps86
  go_wp2
  go_ret
  exact ⟨by rw [e.out]; rfl, ((Mo.refl _).alloc _ _).alloc _ _⟩
 ·rw [decide_eq_false h] at we
  have e : Hid _ := cm_wide (X := X) (Y := Y)
  clear h
  go_enter Try.func86, Try.ntmps86
  go_wp2_with fail
  refine (cmp_m (X / MM) (Y / MM) _).mono ?_
  rintro e w1 ⟨rfl, hm1⟩
  rw [A1.out, B1.out]
  have m : Mo w w1 := Mo.trans (by repeat (first | with_reducible exact Mo.refl _ | with_reducible apply Mo.drew | with_reducible apply Mo.alloc)) hm1
  have M := m
  have Qx : AtW w1 (w.heap.size) X := AtW.mo ⟨by simp [go_sem], fun o => by simp [go_sem], by simp <;> omega⟩ hm1
  have Qy : AtW w1 (w.heap.size + 1) Y := AtW.mo ⟨by simp [go_sem], fun o => by simp [go_sem], by simp <;> omega⟩ hm1
  clear hm1 m
  have Ox := Qx
  obtain ⟨⟨cx0, cx1, cx2, cx3, cx4, cx5, cx6, cx7⟩, fx, sx⟩ := Ox
  have fx := fun o => fx o
  have sxx : w.heap.size < w1.heap.size + 1 := by omega
  have syx : w.heap.size < w1.heap.size + 1 + 1 := by omega
  have Oy := Qy
  obtain ⟨⟨cy0, cy1, cy2, cy3, cy4, cy5, cy6, cy7⟩, fy, sy⟩ := Oy
  have fy := fun o => fy o
  have sxy : w.heap.size + 1 < w1.heap.size + 1 := by omega
  have syy : w.heap.size + 1 < w1.heap.size + 1 + 1 := by omega
  by_cases hz : cm (X / MM) (Y / MM) = 0
  ·have hb : (cm (X / MM) (Y / MM) == 0) = true := by rw [hz]; rfl
   have e2 := e.out
   rw [if_pos hz] at e2
   have E2 : Hid _ := e2
   clear e2 hz
   go_wp2_with fail
   refine (cmp_m X Y _).mono ?_
   rintro e w2 ⟨rfl, hm2⟩
   have m : Mo w1 w2 := Mo.trans (by repeat (first | with_reducible exact Mo.refl _ | with_reducible apply Mo.drew | with_reducible apply Mo.alloc)) hm2
   clear cx0 cx1 cx2 cx3 cx4 cx5 cx6 cx7 fx sx sxx syx cy0 cy1 cy2 cy3 cy4 cy5 cy6 cy7 fy sy sxy syy
   have Qx := Qx.mo m
   have Qy := Qy.mo m
   have M := M.trans m
   clear hm2 m
   have Ox := Qx
   obtain ⟨⟨cx0, cx1, cx2, cx3, cx4, cx5, cx6, cx7⟩, fx, sx⟩ := Ox
   have fx := fun o => fx o
   have sxx : w.heap.size < w2.heap.size + 1 := by omega
   have syx : w.heap.size < w2.heap.size + 1 + 1 := by omega
   have Oy := Qy
   obtain ⟨⟨cy0, cy1, cy2, cy3, cy4, cy5, cy6, cy7⟩, fy, sy⟩ := Oy
   have fy := fun o => fy o
   have sxy : w.heap.size + 1 < w2.heap.size + 1 := by omega
   have syy : w.heap.size + 1 < w2.heap.size + 1 + 1 := by omega
   go_wp2
   go_ret
   exact ⟨by rw [E2.out]; rfl, M⟩
  ·have hb : (cm (X / MM) (Y / MM) == 0) = false := by simp [hz]
   have e2 := e.out
   rw [if_neg hz] at e2
   have E2 : Hid _ := e2
   clear e2 hz
   go_wp2
   go_ret
   exact ⟨by rw [E2.out]; rfl, M⟩
end Go.Proofs.Ythfemlhmnjfjiaa

/-
 decimal.checkBoth, Neg, Abs, Sign: the walks.
-/
namespace Go.Proofs.Ythfemlhmnjfjiaa
open Go.RowKit
theorem ck_20 {b : Bool} {n s : Int} (h : ck b n s ≠ 0) : ck b n s = 20 := by unfold ck at *; split at h <;> simp_all
theorem check_ok (b : Bool) (n s : Int) (w : World) (hn0 : 0 ≤ n) (hn : n < MM) (h : ck b n s = 0) : Calls Try.prog 77 #[dc b n s] w fun e w' => e = .returned (.int .i64 0) ∧ Mo w w' := by
 have := check_n b n s w hn0 hn
 rw [h] at this
 exact this
theorem check_no (b : Bool) (n s : Int) (w : World) (hn0 : 0 ≤ n) (hn : n < MM) (h : ck b n s ≠ 0) : Calls Try.prog 77 #[dc b n s] w fun e w' => e = .returned (.int .i64 20) ∧ Mo w w' := by
 have := check_n b n s w hn0 hn
 rw [ck_20 h] at this
 exact this
set_option maxHeartbeats 4000000 in
theorem both_ok (b : Bool) (n s : Int) (c : Bool) (m t : Int) (w : World) (hn0 : 0 ≤ n) (hn : n < MM) (hm0 : 0 ≤ m) (hm : m < MM) (h1 : ck b n s = 0) (h2 : ck c m t = 0) :
  Calls Try.prog 83 #[dc b n s, dc c m t] w fun e w' => e = .returned (.int .i64 0) ∧ Mo w w' := by
 go_enter Try.func83, Try.ntmps83
 go_wp2_with fail
 refine (check_ok b n s _ hn0 hn h1).mono ?_
 rintro e w1 ⟨rfl, hm1⟩
 have mz : Mo w w1 := Mo.trans (by repeat (first | with_reducible exact Mo.refl _ | with_reducible apply Mo.drew | with_reducible apply Mo.alloc)) hm1
 have M := mz
 have Qa : AtD w1 (w.heap.size) b n s := AtD.mo ⟨by simp [go_sem], fun o => by simp [go_sem], by simp <;> omega⟩ hm1
 have Qb : AtD w1 (w.heap.size + 1) c m t := AtD.mo ⟨by simp [go_sem], fun o => by simp [go_sem], by simp <;> omega⟩ hm1
 clear hm1 mz
 have Oa := Qa
 obtain ⟨⟨ca0, ca1, ca2, ca3, ca4, ca5⟩, fa, sa⟩ := Oa
 have fa := fun o => fa o
 have sxa : w.heap.size < w1.heap.size + 1 := by omega
 have sya : w.heap.size < w1.heap.size + 1 + 1 := by omega
 have Ob := Qb
 obtain ⟨⟨cb0, cb1, cb2, cb3, cb4, cb5⟩, fb, sb⟩ := Ob
 have fb := fun o => fb o
 have sxb : w.heap.size + 1 < w1.heap.size + 1 := by omega
 have syb : w.heap.size + 1 < w1.heap.size + 1 + 1 := by omega
 go_wp2_with fail
 refine (check_ok c m t _ hm0 hm h2).mono ?_
 rintro e w2 ⟨rfl, hm2⟩
 have mz : Mo w1 w2 := Mo.trans (by repeat (first | with_reducible exact Mo.refl _ | with_reducible apply Mo.drew | with_reducible apply Mo.alloc)) hm2
 clear ca0 ca1 ca2 ca3 ca4 ca5 fa sa sxa sya cb0 cb1 cb2 cb3 cb4 cb5 fb sb sxb syb
 have Qa := Qa.mo mz
 have Qb := Qb.mo mz
 have M := M.trans mz
 clear hm2 mz
 have Oa := Qa
 obtain ⟨⟨ca0, ca1, ca2, ca3, ca4, ca5⟩, fa, sa⟩ := Oa
 have fa := fun o => fa o
 have sxa : w.heap.size < w2.heap.size + 1 := by omega
 have sya : w.heap.size < w2.heap.size + 1 + 1 := by omega
 have Ob := Qb
 obtain ⟨⟨cb0, cb1, cb2, cb3, cb4, cb5⟩, fb, sb⟩ := Ob
 have fb := fun o => fb o
 have sxb : w.heap.size + 1 < w2.heap.size + 1 := by omega
 have syb : w.heap.size + 1 < w2.heap.size + 1 + 1 := by omega
 go_wp2
 go_ret
 exact ⟨rfl, M⟩
set_option maxHeartbeats 4000000 in
theorem both_no1 (b : Bool) (n s : Int) (c : Bool) (m t : Int) (w : World) (hn0 : 0 ≤ n) (hn : n < MM) (_hm0 : 0 ≤ m) (_hm : m < MM) (h1 : ck b n s ≠ 0)  :
  Calls Try.prog 83 #[dc b n s, dc c m t] w fun e w' => e = .returned (.int .i64 20) ∧ Mo w w' := by
 go_enter Try.func83, Try.ntmps83
 go_wp2_with fail
 refine (check_no b n s _ hn0 hn h1).mono ?_
 rintro e w1 ⟨rfl, hm1⟩
 have mz : Mo w w1 := Mo.trans (by repeat (first | with_reducible exact Mo.refl _ | with_reducible apply Mo.drew | with_reducible apply Mo.alloc)) hm1
 have M := mz
 have Qa : AtD w1 (w.heap.size) b n s := AtD.mo ⟨by simp [go_sem], fun o => by simp [go_sem], by simp <;> omega⟩ hm1
 have Qb : AtD w1 (w.heap.size + 1) c m t := AtD.mo ⟨by simp [go_sem], fun o => by simp [go_sem], by simp <;> omega⟩ hm1
 clear hm1 mz
 have Oa := Qa
 obtain ⟨⟨ca0, ca1, ca2, ca3, ca4, ca5⟩, fa, sa⟩ := Oa
 have fa := fun o => fa o
 have sxa : w.heap.size < w1.heap.size + 1 := by omega
 have sya : w.heap.size < w1.heap.size + 1 + 1 := by omega
 have Ob := Qb
 obtain ⟨⟨cb0, cb1, cb2, cb3, cb4, cb5⟩, fb, sb⟩ := Ob
 have fb := fun o => fb o
 have sxb : w.heap.size + 1 < w1.heap.size + 1 := by omega
 have syb : w.heap.size + 1 < w1.heap.size + 1 + 1 := by omega
 go_wp2
 go_ret
 exact ⟨rfl, M⟩
set_option maxHeartbeats 4000000 in
theorem both_no2 (b : Bool) (n s : Int) (c : Bool) (m t : Int) (w : World) (hn0 : 0 ≤ n) (hn : n < MM) (hm0 : 0 ≤ m) (hm : m < MM) (h1 : ck b n s = 0) (h2 : ck c m t ≠ 0) :
  Calls Try.prog 83 #[dc b n s, dc c m t] w fun e w' => e = .returned (.int .i64 20) ∧ Mo w w' := by
 go_enter Try.func83, Try.ntmps83
 go_wp2_with fail
 refine (check_ok b n s _ hn0 hn h1).mono ?_
 rintro e w1 ⟨rfl, hm1⟩
 have mz : Mo w w1 := Mo.trans (by repeat (first | with_reducible exact Mo.refl _ | with_reducible apply Mo.drew | with_reducible apply Mo.alloc)) hm1
 have M := mz
 have Qa : AtD w1 (w.heap.size) b n s := AtD.mo ⟨by simp [go_sem], fun o => by simp [go_sem], by simp <;> omega⟩ hm1
 have Qb : AtD w1 (w.heap.size + 1) c m t := AtD.mo ⟨by simp [go_sem], fun o => by simp [go_sem], by simp <;> omega⟩ hm1
 clear hm1 mz
 have Oa := Qa
 obtain ⟨⟨ca0, ca1, ca2, ca3, ca4, ca5⟩, fa, sa⟩ := Oa
 have fa := fun o => fa o
 have sxa : w.heap.size < w1.heap.size + 1 := by omega
 have sya : w.heap.size < w1.heap.size + 1 + 1 := by omega
 have Ob := Qb
 obtain ⟨⟨cb0, cb1, cb2, cb3, cb4, cb5⟩, fb, sb⟩ := Ob
 have fb := fun o => fb o
 have sxb : w.heap.size + 1 < w1.heap.size + 1 := by omega
 have syb : w.heap.size + 1 < w1.heap.size + 1 + 1 := by omega
 go_wp2_with fail
 refine (check_no c m t _ hm0 hm h2).mono ?_
 rintro e w2 ⟨rfl, hm2⟩
 have mz : Mo w1 w2 := Mo.trans (by repeat (first | with_reducible exact Mo.refl _ | with_reducible apply Mo.drew | with_reducible apply Mo.alloc)) hm2
 clear ca0 ca1 ca2 ca3 ca4 ca5 fa sa sxa sya cb0 cb1 cb2 cb3 cb4 cb5 fb sb sxb syb
 have Qa := Qa.mo mz
 have Qb := Qb.mo mz
 have M := M.trans mz
 clear hm2 mz
 have Oa := Qa
 obtain ⟨⟨ca0, ca1, ca2, ca3, ca4, ca5⟩, fa, sa⟩ := Oa
 have fa := fun o => fa o
 have sxa : w.heap.size < w2.heap.size + 1 := by omega
 have sya : w.heap.size < w2.heap.size + 1 + 1 := by omega
 have Ob := Qb
 obtain ⟨⟨cb0, cb1, cb2, cb3, cb4, cb5⟩, fb, sb⟩ := Ob
 have fb := fun o => fb o
 have sxb : w.heap.size + 1 < w2.heap.size + 1 := by omega
 have syb : w.heap.size + 1 < w2.heap.size + 1 + 1 := by omega
 go_wp2
 go_ret
 exact ⟨rfl, M⟩
theorem both_no (b : Bool) (n s : Int) (c : Bool) (m t : Int) (w : World) (hn0 : 0 ≤ n) (hn : n < MM) (hm0 : 0 ≤ m) (hm : m < MM) (h : ¬ (ck b n s = 0 ∧ ck c m t = 0)) :
  Calls Try.prog 83 #[dc b n s, dc c m t] w fun e w' => e = .returned (.int .i64 20) ∧ Mo w w' := by
 by_cases h1 : ck b n s = 0
 ·exact both_no2 b n s c m t w hn0 hn hm0 hm h1 (fun h2 => h ⟨h1, h2⟩)
 ·exact both_no1 b n s c m t w hn0 hn hm0 hm h1
def sg (b : Bool) (n : Int) : Int := if n = 0 then 0 else if b then -1 else 1
set_option maxHeartbeats 4000000 in
theorem sign_n (b : Bool) (n s : Int) (w : World) (hn0 : 0 ≤ n) (hn : n < MM) : Calls Try.prog 85 #[dc b n s] w fun e w' => e = .returned (.int .i64 (sg b n)) ∧ Mo w w' := by
 have q4 := eq4
 have z4 := zb hn0 hn
 cases hz : decide (n = 0) <;> cases hb : b
 all_goals
  rw [hz] at z4
  have hz2 : Hid _ := hz
  clear hz
  go_enter Try.func85, Try.ntmps85
  go_wp2
  go_ret
  exact ⟨by have := hz2.out; simp at this; simp [sg, this], (Mo.refl _).alloc _ _⟩
end Go.Proofs.Ythfemlhmnjfjiaa

/-
 decimal.lift: the walk.
-/
namespace Go.Proofs.Ythfemlhmnjfjiaa
open Go.RowKit
theorem ten_bd (k : Nat) (h : k ≤ 77) : (0 : Int) < 10 ^ k ∧ (10 : Int) ^ k < MM := by
 refine ⟨Int.pow_pos (by decide), ?_⟩
 have h1 : (10 : Nat) ^ k ≤ 10 ^ 77 := Nat.pow_le_pow_right (by decide) h
 have h2 : (10 : Nat) ^ 77 < 115792089237316195423570985008687907853269984665640564039457584007913129639936 := by decide
 have h3 : ((10 ^ k : Nat) : Int) = (10 : Int) ^ k := by rw [Int.natCast_pow]; rfl
 rw [← h3]
 unfold MM
 omega
set_option maxHeartbeats 4000000 in
theorem lift_n (b : Bool) (n s S : Int) (k : Nat) (w : World) (hn0 : 0 ≤ n) (hn : n < MM) (hk : S - s = (k : Int)) (hk7 : k ≤ 77) :
  Calls Try.prog 87 #[dc b n s, .int .i64 S] w fun e w' => e = .returned (dw (n * 10 ^ k)) ∧ Mo w w' := by
 have wk : IntKind.i64.wrap (k : Int) = (k : Int) := by rw [IntKind.wrap_i64]; omega
 have t0 := (ten_bd k hk7).1
 have t1 := (ten_bd k hk7).2
 go_enter Try.func87, Try.ntmps87
 have a : Mo w ((((w).alloc (.cells #[.bool b, .int .u64 (l0 (n)), .int .u64 (l1 (n)), .int .u64 (l2 (n)), .int .u64 (l3 (n)), .int .i64 (s)] 40))).alloc (.cells #[.int .u64 0, .int .u64 0, .int .u64 0, .int .u64 0, .int .u64 0, .int .u64 0, .int .u64 0, .int .u64 0] 136)) := by repeat (first | with_reducible exact Mo.refl _ | with_reducible apply Mo.alloc)
 have M := a
 have Qd : AtD ((((w).alloc (.cells #[.bool b, .int .u64 (l0 (n)), .int .u64 (l1 (n)), .int .u64 (l2 (n)), .int .u64 (l3 (n)), .int .i64 (s)] 40))).alloc (.cells #[.int .u64 0, .int .u64 0, .int .u64 0, .int .u64 0, .int .u64 0, .int .u64 0, .int .u64 0, .int .u64 0] 136)) (w.heap.size) b n s := ⟨by simp [go_sem], fun o => by simp [go_sem], by simp <;> omega⟩
 have Qr : AtW ((((w).alloc (.cells #[.bool b, .int .u64 (l0 (n)), .int .u64 (l1 (n)), .int .u64 (l2 (n)), .int .u64 (l3 (n)), .int .i64 (s)] 40))).alloc (.cells #[.int .u64 0, .int .u64 0, .int .u64 0, .int .u64 0, .int .u64 0, .int .u64 0, .int .u64 0, .int .u64 0] 136)) (w.heap.size + 1) 0 := ⟨by simp [go_sem, zl0, zl1, zl2, zl3], fun o => by simp [go_sem], by simp <;> omega⟩
 clear a
 go_upto_region 1 with fail
 generalize ((((w).alloc (.cells #[.bool b, .int .u64 (l0 (n)), .int .u64 (l1 (n)), .int .u64 (l2 (n)), .int .u64 (l3 (n)), .int .i64 (s)] 40))).alloc (.cells #[.int .u64 0, .int .u64 0, .int .u64 0, .int .u64 0, .int .u64 0, .int .u64 0, .int .u64 0, .int .u64 0] 136)) = W0 at *
 have Od := Qd
 obtain ⟨⟨cd0, cd1, cd2, cd3, cd4, cd5⟩, fd, sd⟩ := Od
 have fd := fun o => fd o
 have sxd : w.heap.size < W0.heap.size + 1 := by omega
 have syd : w.heap.size < W0.heap.size + 1 + 1 := by omega
 have Or := Qr
 obtain ⟨⟨cr0, cr1, cr2, cr3, cr4, cr5, cr6, cr7⟩, fr, sr⟩ := Or
 have fr := fun o => fr o
 have sxr : w.heap.size + 1 < W0.heap.size + 1 := by omega
 have syr : w.heap.size + 1 < W0.heap.size + 1 + 1 := by omega
 go_region_with
  (first | (go_at_call 94; refine (dten_n k _ hk7).mono ?_; rintro e w1 ⟨rfl, hm1⟩; have m1 : Mo W0 w1 := Mo.trans (by repeat (first | with_reducible exact Mo.refl _ | with_reducible apply Mo.drew | with_reducible apply Mo.alloc)) hm1; have d1 := Qd.mo m1; obtain ⟨⟨x0, x1, x2, x3, x4, x5⟩, _, xs⟩ := d1; have r1 := Qr.mo m1; obtain ⟨⟨y0, y1, y2, y3, y4, y5, y6, y7⟩, yf, ys⟩ := r1; have yf := fun o => yf o) | (go_at_call 93; refine (mulDouble_n n (10 ^ k) _ hn0 hn (by omega) t1).mono ?_; rintro e w2 ⟨rfl, hm2⟩; have m2 : Mo w1 w2 := Mo.trans (by repeat (first | with_reducible exact Mo.refl _ | with_reducible apply Mo.drew | with_reducible apply Mo.alloc)) hm2; have m3 := m1.trans m2; have r2 := Qr.mo m3; obtain ⟨⟨z0, z1, z2, z3, z4, z5, z6, z7⟩, zf, zs⟩ := r2; have zf := fun o => zf o))
 all_goals
  go_wp2
  refine bodyPost_ret (v := dw (n * 10 ^ k)) (by simp [results, Try.results87, go_sem, *]) rfl ?_
  have M := M.trans m3
  refine ⟨rfl, ?_⟩
  repeat (first | with_reducible exact M | with_reducible exact Mo.refl _ | with_reducible apply Mo.drew | with_reducible apply Mo.drewN | with_reducible apply Mo.alloc | with_reducible refine Mo.setCell ?_ (by simp <;> omega) _)
end Go.Proofs.Ythfemlhmnjfjiaa

/-
 Decimals as whole numbers with a scale; decimal.fit by them.
-/
namespace Go.Proofs.Ythfemlhmnjfjiaa
open Go.RowKit
def ab (v : Int) : Int := if v < 0 then -v else v
abbrev dz (v s : Int) : Value := dc (decide (v < 0)) (ab v) s
theorem ab_nn (v : Int) : 0 ≤ ab v := by unfold ab; split <;> omega
theorem ck_dz {v s : Int} (h : sc s = true) : ck (decide (v < 0)) (ab v) s = 0 := by
 unfold ck
 rw [h]
 have : (decide (v < 0) && decide (ab v = 0)) = false := by
  unfold ab
  by_cases hv : v < 0
  ·rw [if_pos hv, decide_eq_false (p := -v = 0) (by omega)]; simp
  ·rw [decide_eq_false hv]; rfl
 rw [this]; rfl
theorem sc_iff {s : Int} : sc s = true ↔ 0 ≤ s ∧ s ≤ 18 := by unfold sc; simp
theorem dz_of {b : Bool} {n s : Int} (hn : 0 ≤ n) (h : ck b n s = 0) : sc s = true ∧ ∃ v, ab v = n ∧ decide (v < 0) = b := by
 unfold ck at h
 split at h
 next hh =>
  simp at hh
  refine ⟨hh.1, ?_⟩
  cases b
  ·exact ⟨n, by unfold ab; rw [if_neg (by omega)], decide_eq_false (by omega)⟩
  ·have : n ≠ 0 := fun e => by simp [e] at hh
   exact ⟨-n, by unfold ab; rw [if_pos (by omega)]; omega, decide_eq_true (by omega)⟩
 next => cases h
end Go.Proofs.Ythfemlhmnjfjiaa

/-
 Numbers of twice as many bits as one row of cells: laid and read whole.
-/
namespace Go.Proofs.Ythfemlhmnjfjiaa
open Go.RowKit
def dwa (X : Int) : Array Value := #[.int .u64 (l0 (X / MM)), .int .u64 (l1 (X / MM)), .int .u64 (l2 (X / MM)), .int .u64 (l3 (X / MM)), .int .u64 (l0 X), .int .u64 (l1 X), .int .u64 (l2 X), .int .u64 (l3 X)]
abbrev dx (X : Int) : Value := .agg (dwa X)
theorem Mo.there {w w' : World} {k n : Nat} (m : Mo w w') (h : w.there k 0 n) (hk : k < w.heap.size) : w'.there k 0 n := fun j hj => by
 rw [m.cell k _ hk, m.2]; exact h j hj
theorem size_setCells (k : Nat) : ∀ (l : List Value) (o : Nat) (w : World), (w.setCells k o l).heap.size = w.heap.size
 | [], _, _ => rfl
 | v :: r, o, w => by rw [World.setCells, size_setCells k r]; simp [World.setCell]
theorem Mo.setCells {a : World} {k : Nat} (hk : a.heap.size ≤ k) : ∀ (l : List Value) (o : Nat) (b : World), Mo a b → Mo a (b.setCells k o l)
 | [], _, _, h => h
 | v :: r, o, b, h => by rw [World.setCells]; exact Mo.setCells hk r (o + 1) _ (h.setCell hk v)
theorem AtD.other {w : World} {k j : Nat} {b : Bool} {n s : Int} (h : AtD w j b n s) (hk : j ≠ k) (l : List Value) : AtD (w.setCells k 0 l) j b n s := by
 obtain ⟨⟨a0, a1, a2, a3, a4, a5⟩, f, z⟩ := h
 have e : ∀ o, (w.setCells k 0 l).cell? ⟨j, o, none⟩ = w.cell? ⟨j, o, none⟩ := fun o => World.cell?_setCells_out k l 0 w _ (fun hb _ => absurd hb hk)
 exact ⟨by simp only [e]; exact ⟨a0, a1, a2, a3, a4, a5⟩, fun o => by rw [World.frozen?_setCells]; exact f o, by rw [size_setCells]; exact z⟩
theorem lift_x (b : Bool) (n s S : Int) (k : Nat) (w : World) (hn0 : 0 ≤ n) (hn : n < MM) (hk : S - s = (k : Int)) (hk7 : k ≤ 77) :
  Calls Try.prog 87 #[dc b n s, .int .i64 S] w fun e w' => e = .returned (dx (n * 10 ^ k)) ∧ Mo w w' := lift_n b n s S k w hn0 hn hk hk7
theorem cmpDouble_x (X Y : Int) (w : World) (hX0 : 0 ≤ X) (hX : X < MM * MM) (hY0 : 0 ≤ Y) (hY : Y < MM * MM) :
  Calls Try.prog 86 #[dx X, dx Y] w fun e w' => e = .returned (.int .i64 (cm X Y)) ∧ Mo w w' := cmpDouble_n X Y w hX0 hX hY0 hY
end Go.Proofs.Ythfemlhmnjfjiaa

/-
 This program's types: how many cells they have; a builtin.
-/
namespace Go.Proofs.Ythfemlhmnjfjiaa
theorem sz3 : (Try.prog.info? 3).map (·.size) = some 1 := by kernel_rfl
theorem sz4 : (Try.prog.info? 4).map (·.size) = some 1 := by kernel_rfl
end Go.Proofs.Ythfemlhmnjfjiaa

/-
 Wide numbers: their limbs; sums limb by limb, and bit by bit.
-/
namespace Go.Proofs.Ythfemlhmnjfjiaa
open Go.RowKit
def l4 (n : Int) : Int := n / 115792089237316195423570985008687907853269984665640564039457584007913129639936 % 18446744073709551616
theorem dd2 (a : Int) : a / 340282366920938463463374607431768211456 = a / 18446744073709551616 / 18446744073709551616 := by omega
theorem dd3 (a : Int) : a / 6277101735386680763835789423207666416102355444464034512896 = a / 18446744073709551616 / 18446744073709551616 / 18446744073709551616 := by rw [← dd2]; omega
theorem dd4 (a : Int) : a / 115792089237316195423570985008687907853269984665640564039457584007913129639936 = a / 18446744073709551616 / 18446744073709551616 / 18446744073709551616 / 18446744073709551616 := by rw [← dd3]; omega
theorem add_step (a b c : Int) : (a + b + c) % 18446744073709551616 = (a % 18446744073709551616 + b % 18446744073709551616 + c) % 18446744073709551616 ∧ (a + b + c) / 18446744073709551616 = a / 18446744073709551616 + b / 18446744073709551616 + (a % 18446744073709551616 + b % 18446744073709551616 + c) / 18446744073709551616 := by omega
def c1 (a b : Int) : Int := (l0 a + l0 b + 0) / 18446744073709551616
def c2 (a b : Int) : Int := (l1 a + l1 b + c1 a b) / 18446744073709551616
def c3 (a b : Int) : Int := (l2 a + l2 b + c2 a b) / 18446744073709551616
def c4 (a b : Int) : Int := (l3 a + l3 b + c3 a b) / 18446744073709551616
theorem l_bd (a : Int) : (0 ≤ l0 a ∧ l0 a < 18446744073709551616) ∧ (0 ≤ l1 a ∧ l1 a < 18446744073709551616) ∧ (0 ≤ l2 a ∧ l2 a < 18446744073709551616) ∧ (0 ≤ l3 a ∧ l3 a < 18446744073709551616) ∧ (0 ≤ l4 a ∧ l4 a < 18446744073709551616) := by
 unfold l0 l1 l2 l3 l4; omega
theorem c_bd (a b : Int) : (0 ≤ c1 a b ∧ c1 a b ≤ 1) ∧ (0 ≤ c2 a b ∧ c2 a b ≤ 1) ∧ (0 ≤ c3 a b ∧ c3 a b ≤ 1) ∧ (0 ≤ c4 a b ∧ c4 a b ≤ 1) := by
 have ha := l_bd a; have hb := l_bd b
 have h1 : 0 ≤ c1 a b ∧ c1 a b ≤ 1 := by unfold c1; omega
 have h2 : 0 ≤ c2 a b ∧ c2 a b ≤ 1 := by unfold c2; omega
 have h3 : 0 ≤ c3 a b ∧ c3 a b ≤ 1 := by unfold c3; omega
 have h4 : 0 ≤ c4 a b ∧ c4 a b ≤ 1 := by unfold c4; omega
 exact ⟨h1, h2, h3, h4⟩
theorem add_l (a b : Int) : l0 (a + b) = (l0 a + l0 b + 0) % 18446744073709551616 ∧ l1 (a + b) = (l1 a + l1 b + c1 a b) % 18446744073709551616 ∧ l2 (a + b) = (l2 a + l2 b + c2 a b) % 18446744073709551616 ∧ l3 (a + b) = (l3 a + l3 b + c3 a b) % 18446744073709551616 ∧ l4 (a + b) = (l4 a + l4 b + c4 a b) % 18446744073709551616 := by
 have s0 := add_step a b 0
 have s1 := add_step (a / 18446744073709551616) (b / 18446744073709551616) (c1 a b)
 have s2 := add_step (a / 18446744073709551616 / 18446744073709551616) (b / 18446744073709551616 / 18446744073709551616) (c2 a b)
 have s3 := add_step (a / 18446744073709551616 / 18446744073709551616 / 18446744073709551616) (b / 18446744073709551616 / 18446744073709551616 / 18446744073709551616) (c3 a b)
 have s4 := add_step (a / 18446744073709551616 / 18446744073709551616 / 18446744073709551616 / 18446744073709551616) (b / 18446744073709551616 / 18446744073709551616 / 18446744073709551616 / 18446744073709551616) (c4 a b)
 rw [Int.add_zero] at s0
 have e1 : (a + b) / 18446744073709551616 = a / 18446744073709551616 + b / 18446744073709551616 + c1 a b := by rw [s0.2]; simp only [c1, l0]
 have e2 : (a + b) / 18446744073709551616 / 18446744073709551616 = a / 18446744073709551616 / 18446744073709551616 + b / 18446744073709551616 / 18446744073709551616 + c2 a b := by rw [e1, s1.2]; simp only [c2, l1]
 have e3 : (a + b) / 18446744073709551616 / 18446744073709551616 / 18446744073709551616 = a / 18446744073709551616 / 18446744073709551616 / 18446744073709551616 + b / 18446744073709551616 / 18446744073709551616 / 18446744073709551616 + c3 a b := by rw [e2, s2.2]; simp only [c3, l2, dd2]
 have e4 : (a + b) / 18446744073709551616 / 18446744073709551616 / 18446744073709551616 / 18446744073709551616 = a / 18446744073709551616 / 18446744073709551616 / 18446744073709551616 / 18446744073709551616 + b / 18446744073709551616 / 18446744073709551616 / 18446744073709551616 / 18446744073709551616 + c4 a b := by rw [e3, s3.2]; simp only [c4, l3, dd3]
 refine ⟨?_, ?_, ?_, ?_, ?_⟩
 ·unfold l0; rw [s0.1]
 ·unfold l1; rw [e1, s1.1]
 ·unfold l2; rw [dd2, dd2 a, dd2 b, e2, s2.1]
 ·unfold l3; rw [dd3, dd3 a, dd3 b, e3, s3.1]
 ·unfold l4; rw [dd4, dd4 a, dd4 b, e4, s4.1]
theorem not_l (a : Int) : l0 (-1 - a) = 18446744073709551615 - l0 a ∧ l1 (-1 - a) = 18446744073709551615 - l1 a ∧ l2 (-1 - a) = 18446744073709551615 - l2 a ∧ l3 (-1 - a) = 18446744073709551615 - l3 a ∧ l4 (-1 - a) = 18446744073709551615 - l4 a := by
 have h : ∀ x : Int, (-1 - x) / 18446744073709551616 = -1 - x / 18446744073709551616 := fun x => by omega
 have g : ∀ x : Int, (-1 - x) % 18446744073709551616 = 18446744073709551615 - x % 18446744073709551616 := fun x => by omega
 unfold l0 l1 l2 l3 l4
 rw [dd2, dd2 a, dd3, dd3 a, dd4, dd4 a]
 simp only [h, g, and_self]
section
variable {P : Program} {n : Nat} {l : List (Nat × Value)} {w : World} {Q : Exit → Act → World → Prop} {c : Code}
theorem w_rounds (N : Nat) (h : WC P c (Exit.then (Code.rounds P c Q N) Q) n l w) : WC P (Code.loop c) Q n l w := ⟨wp_loop_rounds (N + 1) h.out⟩
theorem xn_rounds {N : Nat} (h : WC P c (Exit.then (Code.rounds P c Q N) Q) n l w) : WX (Exit.then (Code.rounds P c Q (N + 1)) Q) .normal n l w := ⟨h.out⟩
end
def wv (v : Int) : Value := .agg #[.int .u64 (l0 v), .int .u64 (l1 v), .int .u64 (l2 v), .int .u64 (l3 v), .int .u64 (l4 v)]
theorem sz22 : (Try.prog.info? 34).map (·.size) = some 1 := by kernel_rfl
theorem sz31 : (Try.prog.info? 36).map (·.size) = some 5 := by kernel_rfl
theorem sz33 : (Try.prog.info? 42).map (·.size) = some 23 := by kernel_rfl
theorem add64_op {n : Nat} {l : List (Nat × Value)} (x y c : Int) (hx : 0 ≤ x) (hy : 0 ≤ y) (hc0 : 0 ≤ c) (hc : c ≤ 1) (X Y Z : Operand) (eX : evl n l X = .int .u64 x) (eY : evl n l Y = .int .u64 y) (eZ : evl n l Z = .int .u64 c) (dst : Option Tmp) (ats : Array TypeId) (ty : TypeId) (pos : String) (after : Array Edge) (guard : Option (Nat × Bool)) (w : World) :
  (execOp (evl n l) { dst, op := .call { callee := .value (.func 74), args := #[X, Y, Z], argTypes := ats }, type := ty, pos, after, guard }).run Try.prog w = .ok (.value (.tuple #[.int .u64 ((x + y + c) % 18446744073709551616), .int .u64 ((x + y + c) / 18446744073709551616)])) w := by
 have e2 := execOp_call_go (fr n l) dst 74 #[X, Y, Z] ats ty pos after guard
 rw [fr_eval] at e2
 rw [e2]
 have : (#[X, Y, Z] : Array Operand).map (evl n l) = #[.int .u64 x, .int .u64 y, .int .u64 c] := by simp [eX, eY, eZ]
 rw [this]
 exact add64 x y c hx hy hc0 hc w
end Go.Proofs.Ythfemlhmnjfjiaa

/-
 AddWide and minus, the program's.
-/
namespace Go.Proofs.Ythfemlhmnjfjiaa
open Go.RowKit
section
variable {w : World}
theorem addw_n (a b : Int) : Calls Try.prog 63 #[wv a, wv b] w fun e w' => e = .returned (wv (a + b)) ∧ Mo w w' := by
 have ha := l_bd a
 have hb := l_bd b
 have hc := c_bd a b
 obtain ⟨e0, e1, e2, e3, e4⟩ := add_l a b
 refine w_enter 26 Try.func63 Try.ntmps63 rfl rfl ?_
 have M : Mo w w := Mo.refl _
 refine w_seq (w_reg ?_)
 refine wl_box 36 (.tmp 0) _ (#[.int .u64 (l0 (a)), .int .u64 (l1 (a)), .int .u64 (l2 (a)), .int .u64 (l3 (a)), .int .u64 (l4 (a))]) rfl rfl (fun _ => by kernel_rfl) rfl ?_
 intro k1 w1 hk hz hq Q1
 have N_k1 : w.heap.size ≤ k1 := by have := M.size; omega
 replace M := M.trans hq
 clear hk hz hq
 refine wl_box 36 (.tmp 1) _ (#[.int .u64 (l0 (b)), .int .u64 (l1 (b)), .int .u64 (l2 (b)), .int .u64 (l3 (b)), .int .u64 (l4 (b))]) rfl rfl (fun _ => by kernel_rfl) rfl ?_
 intro k2 w2 hk hz hq Q2
 have ne_k1_k2 : k1 ≠ k2 := by have := Q1.lt; omega
 have N_k2 : w.heap.size ≤ k2 := by have := M.size; omega
 replace Q1 := Q1.mo hq
 replace M := M.trans hq
 clear hk hz hq
 refine wl_alloc 36 #[.int .u64 0, .int .u64 0, .int .u64 0, .int .u64 0, .int .u64 0] rfl (fun _ => by kernel_rfl) rfl ?_
 intro k3 w3 hk hz hq Q3
 have ne_k1_k3 : k1 ≠ k3 := by have := Q1.lt; omega
 have ne_k2_k3 : k2 ≠ k3 := by have := Q2.lt; omega
 have N_k3 : w.heap.size ≤ k3 := by have := M.size; omega
 replace Q1 := Q1.mo hq
 replace Q2 := Q2.mo hq
 replace M := M.trans hq
 clear hk hz hq
 refine w_nil (xn_then (w_seq (w_reg ?_)))
 refine wl_alloc 36 #[.int .u64 0, .int .u64 0, .int .u64 0, .int .u64 0, .int .u64 0] rfl (fun _ => by kernel_rfl) rfl ?_
 intro k4 w4 hk hz hq Q4
 have ne_k1_k4 : k1 ≠ k4 := by have := Q1.lt; omega
 have ne_k2_k4 : k2 ≠ k4 := by have := Q2.lt; omega
 have ne_k3_k4 : k3 ≠ k4 := by have := Q3.lt; omega
 have N_k4 : w.heap.size ≤ k4 := by have := M.size; omega
 replace Q1 := Q1.mo hq
 replace Q2 := Q2.mo hq
 replace Q3 := Q3.mo hq
 replace M := M.trans hq
 clear hk hz hq
 refine w_nil (xn_then (w_seq (w_reg ?_)))
 refine wl_m (.const (.int .u64 (0))) (.int .u64 (0)) ?_
 refine w_nil (xn_then (w_seq (w_seq (w_reg ?_))))
 refine wl_m (.const (.int .i64 (0))) (.int .i64 (0)) ?_
 refine w_nil (xn_then (w_block ?_))
 refine w_rounds 5 ?_
 refine w_seq (w_reg ?_)
 refine wl_b .lss 3 (.tmp 8) (.const (.int .i64 (5))) (.int .i64 (0)) (.int .i64 (5)) (.bool true) (by kernel_rfl) ?_
 refine w_nil (xn_then (w_seq (w_condT rfl (w_skip (xn_then (w_seq (w_block (w_seq (w_reg ?_)))))))))
 refine wl_m (.tmp 8) (.int .i64 (0)) ?_
 refine wl_m (.tmp 10) (.int .i64 (0)) ?_
 refine w_nil (xn_then ?_)
 refine w_any 13 [.inl (.int .i64 (0)), .inl (.int .i64 (0)), .inl (pt k1 0), .inl (.int .u64 (l0 (a))), .inl (.int .i64 (0)), .inl (pt k2 0), .inl (.int .u64 (l0 (b))), .inl (.int .u64 (0)), .inl (.tuple #[.int .u64 ((l0 (a) + l0 (b) + 0) % 18446744073709551616), .int .u64 (c1 a b)]), .inl (.tuple #[.int .u64 ((l0 (a) + l0 (b) + 0) % 18446744073709551616), .int .u64 (c1 a b)]), .inl (.int .u64 ((l0 (a) + l0 (b) + 0) % 18446744073709551616)), .inl (.int .u64 (c1 a b)), .inl (pt k4 0)] [11] (by kernel_rfl) (by kernel_rfl) (by kernel_rfl) (by kernel_rfl) rfl (by kernel_rfl) (by kernel_rfl) (late_cons ⟨_, _, rfl, rfl, fun _ _ _ _ h => h, fun f hd => ⟨rfl, la_un (fun v => Instr.extract v 1) (.tmp 11) (.tuple #[.int .u64 ((l0 (a) + l0 (b) + 0) % 18446744073709551616), .int .u64 (c1 a b)]) (.int .u64 (c1 a b)) (fun _ => rfl) (hd 9 rfl _ rfl) (fun w => by kernel_rfl)⟩⟩ late_nil) ?_ ?_ ?_
 ·exact Ds.none rfl
 ·refine ea_cons ?_ (ea_cons ?_ (ea_cons ?_ (ea_cons ?_ (ea_cons ?_ (ea_cons ?_ (ea_cons ?_ (ea_cons ?_ (ea_cons ?_ (ea_cons ?_ (ea_cons ?_ (ea_cons ?_ (ea_cons ?_ (ea_nil)))))))))))))
  ·exact og_eq _ rfl (fun f wf hq hd K hK => go_run rfl (wo_mv (.tmp 7) (.int .i64 (0)) (fun _ => rfl) rfl (hK _ (Mo.refl _))))
  ·exact og_eq _ rfl (fun f wf hq hd K hK => go_run rfl (wo_mv (.tmp 7) (.int .i64 (0)) (fun _ => rfl) rfl (hK _ (Mo.refl _))))
  ·exact og_eq _ rfl (fun f wf hq hd K hK => go_run rfl (wo_bin (fun x y => Instr.indexAt 36 x y) (.tmp 2) (.tmp 13) (pt k1 0) (.int .i64 (0)) (pt k1 0) (fun _ => rfl) rfl (hd 1 rfl) (by kernel_rfl) (hK _ (Mo.refl _))))
  ·exact og_eq _ rfl (fun f wf hq hd K hK => have Q1 := Q1.mo hq; go_run rfl (wo_load 34 (.tmp 14) (pt k1 0) (.int .u64 (l0 (a))) rfl (hd 2 rfl) (run_one Q1 34 0 rfl Try.underlying34 rfl) (hK _ (Mo.refl _))))
  ·exact og_eq _ rfl (fun f wf hq hd K hK => go_run rfl (wo_mv (.tmp 7) (.int .i64 (0)) (fun _ => rfl) rfl (hK _ (Mo.refl _))))
  ·exact og_eq _ rfl (fun f wf hq hd K hK => go_run rfl (wo_bin (fun x y => Instr.indexAt 36 x y) (.tmp 3) (.tmp 16) (pt k2 0) (.int .i64 (0)) (pt k2 0) (fun _ => rfl) rfl (hd 4 rfl) (by kernel_rfl) (hK _ (Mo.refl _))))
  ·exact og_eq _ rfl (fun f wf hq hd K hK => have Q2 := Q2.mo hq; go_run rfl (wo_load 34 (.tmp 17) (pt k2 0) (.int .u64 (l0 (b))) rfl (hd 5 rfl) (run_one Q2 34 0 rfl Try.underlying34 rfl) (hK _ (Mo.refl _))))
  ·exact og_eq _ rfl (fun f wf hq hd K hK => go_run rfl (wo_mv (.tmp 6) (.int .u64 (0)) (fun _ => rfl) rfl (hK _ (Mo.refl _))))
  ·exact og_eq _ rfl (fun f wf hq hd K hK => go_run rfl (wo_val (.tuple #[.int .u64 ((l0 (a) + l0 (b) + 0) % 18446744073709551616), .int .u64 (c1 a b)]) (add64_op (l0 a) (l0 b) (0) ha.1.1 hb.1.1 (Int.le_refl 0) (by decide) _ _ _ (by exact (hd 3 rfl)) (by exact (hd 6 rfl)) (by exact (hd 7 rfl)) _ _ _ _ _ _ _) (hK _ (Mo.refl _))))
  ·exact og_eq _ rfl (fun f wf hq hd K hK => go_run rfl (wo_mv (.tmp 20) (.tuple #[.int .u64 ((l0 (a) + l0 (b) + 0) % 18446744073709551616), .int .u64 (c1 a b)]) (fun _ => rfl) (hd 8 rfl) (hK _ (Mo.refl _))))
  ·exact og_eq _ rfl (fun f wf hq hd K hK => go_run rfl (wo_un (fun v => Instr.extract v 0) (.tmp 11) (.tuple #[.int .u64 ((l0 (a) + l0 (b) + 0) % 18446744073709551616), .int .u64 (c1 a b)]) (.int .u64 ((l0 (a) + l0 (b) + 0) % 18446744073709551616)) (fun _ => rfl) (hd 9 rfl) (by kernel_rfl) (hK _ (Mo.refl _))))
  ·exact og_eq _ rfl (fun f wf hq hd K hK => go_run rfl (wo_un (fun v => Instr.extract v 1) (.tmp 11) (.tuple #[.int .u64 ((l0 (a) + l0 (b) + 0) % 18446744073709551616), .int .u64 (c1 a b)]) (.int .u64 (c1 a b)) (fun _ => rfl) (hd 9 rfl) (by kernel_rfl) (hK _ (Mo.refl _))))
  ·exact og_eq _ rfl (fun f wf hq hd K hK => go_run rfl (wo_bin (fun x y => Instr.indexAt 36 x y) (.tmp 5) (.tmp 12) (pt k4 0) (.int .i64 (0)) (pt k4 0) (fun _ => rfl) rfl (hd 0 rfl) (by kernel_rfl) (hK _ (Mo.refl _))))
 intro kf5 w5 hq hR hne
 replace Q1 := Q1.mo hq
 replace Q2 := Q2.mo hq
 replace Q3 := Q3.mo hq
 replace Q4 := Q4.mo hq
 replace M := M.trans hq
 clear hq hR hne
 refine wl_st1 34 (.tmp 23) (.tmp 21) k4 0 (.int .u64 ((l0 (a) + l0 (b) + 0) % 18446744073709551616)) _ [.int .u64 ((l0 (a) + l0 (b) + 0) % 18446744073709551616), .int .u64 0, .int .u64 0, .int .u64 0, .int .u64 0] Q4 rfl rfl rfl rfl rfl sz22 rfl rfl rfl rfl ?_
 intro w6 hS Qn
 replace Q4 := Qn
 clear Qn
 replace Q1 := hS.other _ _ ne_k1_k4 Q1
 replace Q2 := hS.other _ _ ne_k2_k4 Q2
 replace Q3 := hS.other _ _ ne_k3_k4 Q3
 replace M := hS.mo _ N_k4 M
 clear hS
 refine wl_m (.tmp 22) (.int .u64 (c1 a b)) ?_
 refine w_nil (xn_blk (xn_then (w_reg ?_)))
 refine wl_b .add 3 (.tmp 8) (.const (.int .i64 (1))) (.int .i64 (0)) (.int .i64 (1)) (.int .i64 (1)) (by kernel_rfl) ?_
 refine wl_m (.tmp 24) (.int .i64 (1)) ?_
 refine w_nil ?_
 refine xn_rounds ?_
 refine w_seq (w_reg ?_)
 refine wl_b .lss 3 (.tmp 8) (.const (.int .i64 (5))) (.int .i64 (1)) (.int .i64 (5)) (.bool true) (by kernel_rfl) ?_
 refine w_nil (xn_then (w_seq (w_condT rfl (w_skip (xn_then (w_seq (w_block (w_seq (w_reg ?_)))))))))
 refine wl_m (.tmp 8) (.int .i64 (1)) ?_
 refine wl_m (.tmp 10) (.int .i64 (1)) ?_
 refine w_nil (xn_then ?_)
 refine w_any 13 [.inl (.int .i64 (1)), .inl (.int .i64 (1)), .inl (pt k1 1), .inl (.int .u64 (l1 (a))), .inl (.int .i64 (1)), .inl (pt k2 1), .inl (.int .u64 (l1 (b))), .inl (.int .u64 (c1 a b)), .inl (.tuple #[.int .u64 ((l1 (a) + l1 (b) + c1 a b) % 18446744073709551616), .int .u64 (c2 a b)]), .inl (.tuple #[.int .u64 ((l1 (a) + l1 (b) + c1 a b) % 18446744073709551616), .int .u64 (c2 a b)]), .inl (.int .u64 ((l1 (a) + l1 (b) + c1 a b) % 18446744073709551616)), .inl (.int .u64 (c2 a b)), .inl (pt k4 1)] [11] (by kernel_rfl) (by kernel_rfl) (by kernel_rfl) (by kernel_rfl) rfl (by kernel_rfl) (by kernel_rfl) (late_cons ⟨_, _, rfl, rfl, fun _ _ _ _ h => h, fun f hd => ⟨rfl, la_un (fun v => Instr.extract v 1) (.tmp 11) (.tuple #[.int .u64 ((l1 (a) + l1 (b) + c1 a b) % 18446744073709551616), .int .u64 (c2 a b)]) (.int .u64 (c2 a b)) (fun _ => rfl) (hd 9 rfl _ rfl) (fun w => by kernel_rfl)⟩⟩ late_nil) ?_ ?_ ?_
 ·exact Ds.none rfl
 ·refine ea_cons ?_ (ea_cons ?_ (ea_cons ?_ (ea_cons ?_ (ea_cons ?_ (ea_cons ?_ (ea_cons ?_ (ea_cons ?_ (ea_cons ?_ (ea_cons ?_ (ea_cons ?_ (ea_cons ?_ (ea_cons ?_ (ea_nil)))))))))))))
  ·exact og_eq _ rfl (fun f wf hq hd K hK => go_run rfl (wo_mv (.tmp 7) (.int .i64 (1)) (fun _ => rfl) rfl (hK _ (Mo.refl _))))
  ·exact og_eq _ rfl (fun f wf hq hd K hK => go_run rfl (wo_mv (.tmp 7) (.int .i64 (1)) (fun _ => rfl) rfl (hK _ (Mo.refl _))))
  ·exact og_eq _ rfl (fun f wf hq hd K hK => go_run rfl (wo_bin (fun x y => Instr.indexAt 36 x y) (.tmp 2) (.tmp 13) (pt k1 0) (.int .i64 (1)) (pt k1 1) (fun _ => rfl) rfl (hd 1 rfl) (by kernel_rfl) (hK _ (Mo.refl _))))
  ·exact og_eq _ rfl (fun f wf hq hd K hK => have Q1 := Q1.mo hq; go_run rfl (wo_load 34 (.tmp 14) (pt k1 1) (.int .u64 (l1 (a))) rfl (hd 2 rfl) (run_one Q1 34 1 rfl Try.underlying34 rfl) (hK _ (Mo.refl _))))
  ·exact og_eq _ rfl (fun f wf hq hd K hK => go_run rfl (wo_mv (.tmp 7) (.int .i64 (1)) (fun _ => rfl) rfl (hK _ (Mo.refl _))))
  ·exact og_eq _ rfl (fun f wf hq hd K hK => go_run rfl (wo_bin (fun x y => Instr.indexAt 36 x y) (.tmp 3) (.tmp 16) (pt k2 0) (.int .i64 (1)) (pt k2 1) (fun _ => rfl) rfl (hd 4 rfl) (by kernel_rfl) (hK _ (Mo.refl _))))
  ·exact og_eq _ rfl (fun f wf hq hd K hK => have Q2 := Q2.mo hq; go_run rfl (wo_load 34 (.tmp 17) (pt k2 1) (.int .u64 (l1 (b))) rfl (hd 5 rfl) (run_one Q2 34 1 rfl Try.underlying34 rfl) (hK _ (Mo.refl _))))
  ·exact og_eq _ rfl (fun f wf hq hd K hK => go_run rfl (wo_mv (.tmp 6) (.int .u64 (c1 a b)) (fun _ => rfl) rfl (hK _ (Mo.refl _))))
  ·exact og_eq _ rfl (fun f wf hq hd K hK => go_run rfl (wo_val (.tuple #[.int .u64 ((l1 (a) + l1 (b) + c1 a b) % 18446744073709551616), .int .u64 (c2 a b)]) (add64_op (l1 a) (l1 b) (c1 a b) ha.2.1.1 hb.2.1.1 hc.1.1 hc.1.2 _ _ _ (by exact (hd 3 rfl)) (by exact (hd 6 rfl)) (by exact (hd 7 rfl)) _ _ _ _ _ _ _) (hK _ (Mo.refl _))))
  ·exact og_eq _ rfl (fun f wf hq hd K hK => go_run rfl (wo_mv (.tmp 20) (.tuple #[.int .u64 ((l1 (a) + l1 (b) + c1 a b) % 18446744073709551616), .int .u64 (c2 a b)]) (fun _ => rfl) (hd 8 rfl) (hK _ (Mo.refl _))))
  ·exact og_eq _ rfl (fun f wf hq hd K hK => go_run rfl (wo_un (fun v => Instr.extract v 0) (.tmp 11) (.tuple #[.int .u64 ((l1 (a) + l1 (b) + c1 a b) % 18446744073709551616), .int .u64 (c2 a b)]) (.int .u64 ((l1 (a) + l1 (b) + c1 a b) % 18446744073709551616)) (fun _ => rfl) (hd 9 rfl) (by kernel_rfl) (hK _ (Mo.refl _))))
  ·exact og_eq _ rfl (fun f wf hq hd K hK => go_run rfl (wo_un (fun v => Instr.extract v 1) (.tmp 11) (.tuple #[.int .u64 ((l1 (a) + l1 (b) + c1 a b) % 18446744073709551616), .int .u64 (c2 a b)]) (.int .u64 (c2 a b)) (fun _ => rfl) (hd 9 rfl) (by kernel_rfl) (hK _ (Mo.refl _))))
  ·exact og_eq _ rfl (fun f wf hq hd K hK => go_run rfl (wo_bin (fun x y => Instr.indexAt 36 x y) (.tmp 5) (.tmp 12) (pt k4 0) (.int .i64 (1)) (pt k4 1) (fun _ => rfl) rfl (hd 0 rfl) (by kernel_rfl) (hK _ (Mo.refl _))))
 intro kf7 w7 hq hR hne
 replace Q1 := Q1.mo hq
 replace Q2 := Q2.mo hq
 replace Q3 := Q3.mo hq
 replace Q4 := Q4.mo hq
 replace M := M.trans hq
 clear hq hR hne
 refine wl_st1 34 (.tmp 23) (.tmp 21) k4 1 (.int .u64 ((l1 (a) + l1 (b) + c1 a b) % 18446744073709551616)) _ [.int .u64 ((l0 (a) + l0 (b) + 0) % 18446744073709551616), .int .u64 ((l1 (a) + l1 (b) + c1 a b) % 18446744073709551616), .int .u64 0, .int .u64 0, .int .u64 0] Q4 rfl rfl rfl rfl rfl sz22 rfl rfl rfl rfl ?_
 intro w8 hS Qn
 replace Q4 := Qn
 clear Qn
 replace Q1 := hS.other _ _ ne_k1_k4 Q1
 replace Q2 := hS.other _ _ ne_k2_k4 Q2
 replace Q3 := hS.other _ _ ne_k3_k4 Q3
 replace M := hS.mo _ N_k4 M
 clear hS
 refine wl_m (.tmp 22) (.int .u64 (c2 a b)) ?_
 refine w_nil (xn_blk (xn_then (w_reg ?_)))
 refine wl_b .add 3 (.tmp 8) (.const (.int .i64 (1))) (.int .i64 (1)) (.int .i64 (1)) (.int .i64 (2)) (by kernel_rfl) ?_
 refine wl_m (.tmp 24) (.int .i64 (2)) ?_
 refine w_nil ?_
 refine xn_rounds ?_
 refine w_seq (w_reg ?_)
 refine wl_b .lss 3 (.tmp 8) (.const (.int .i64 (5))) (.int .i64 (2)) (.int .i64 (5)) (.bool true) (by kernel_rfl) ?_
 refine w_nil (xn_then (w_seq (w_condT rfl (w_skip (xn_then (w_seq (w_block (w_seq (w_reg ?_)))))))))
 refine wl_m (.tmp 8) (.int .i64 (2)) ?_
 refine wl_m (.tmp 10) (.int .i64 (2)) ?_
 refine w_nil (xn_then ?_)
 refine w_any 13 [.inl (.int .i64 (2)), .inl (.int .i64 (2)), .inl (pt k1 2), .inl (.int .u64 (l2 (a))), .inl (.int .i64 (2)), .inl (pt k2 2), .inl (.int .u64 (l2 (b))), .inl (.int .u64 (c2 a b)), .inl (.tuple #[.int .u64 ((l2 (a) + l2 (b) + c2 a b) % 18446744073709551616), .int .u64 (c3 a b)]), .inl (.tuple #[.int .u64 ((l2 (a) + l2 (b) + c2 a b) % 18446744073709551616), .int .u64 (c3 a b)]), .inl (.int .u64 ((l2 (a) + l2 (b) + c2 a b) % 18446744073709551616)), .inl (.int .u64 (c3 a b)), .inl (pt k4 2)] [11] (by kernel_rfl) (by kernel_rfl) (by kernel_rfl) (by kernel_rfl) rfl (by kernel_rfl) (by kernel_rfl) (late_cons ⟨_, _, rfl, rfl, fun _ _ _ _ h => h, fun f hd => ⟨rfl, la_un (fun v => Instr.extract v 1) (.tmp 11) (.tuple #[.int .u64 ((l2 (a) + l2 (b) + c2 a b) % 18446744073709551616), .int .u64 (c3 a b)]) (.int .u64 (c3 a b)) (fun _ => rfl) (hd 9 rfl _ rfl) (fun w => by kernel_rfl)⟩⟩ late_nil) ?_ ?_ ?_
 ·exact Ds.none rfl
 ·refine ea_cons ?_ (ea_cons ?_ (ea_cons ?_ (ea_cons ?_ (ea_cons ?_ (ea_cons ?_ (ea_cons ?_ (ea_cons ?_ (ea_cons ?_ (ea_cons ?_ (ea_cons ?_ (ea_cons ?_ (ea_cons ?_ (ea_nil)))))))))))))
  ·exact og_eq _ rfl (fun f wf hq hd K hK => go_run rfl (wo_mv (.tmp 7) (.int .i64 (2)) (fun _ => rfl) rfl (hK _ (Mo.refl _))))
  ·exact og_eq _ rfl (fun f wf hq hd K hK => go_run rfl (wo_mv (.tmp 7) (.int .i64 (2)) (fun _ => rfl) rfl (hK _ (Mo.refl _))))
  ·exact og_eq _ rfl (fun f wf hq hd K hK => go_run rfl (wo_bin (fun x y => Instr.indexAt 36 x y) (.tmp 2) (.tmp 13) (pt k1 0) (.int .i64 (2)) (pt k1 2) (fun _ => rfl) rfl (hd 1 rfl) (by kernel_rfl) (hK _ (Mo.refl _))))
  ·exact og_eq _ rfl (fun f wf hq hd K hK => have Q1 := Q1.mo hq; go_run rfl (wo_load 34 (.tmp 14) (pt k1 2) (.int .u64 (l2 (a))) rfl (hd 2 rfl) (run_one Q1 34 2 rfl Try.underlying34 rfl) (hK _ (Mo.refl _))))
  ·exact og_eq _ rfl (fun f wf hq hd K hK => go_run rfl (wo_mv (.tmp 7) (.int .i64 (2)) (fun _ => rfl) rfl (hK _ (Mo.refl _))))
  ·exact og_eq _ rfl (fun f wf hq hd K hK => go_run rfl (wo_bin (fun x y => Instr.indexAt 36 x y) (.tmp 3) (.tmp 16) (pt k2 0) (.int .i64 (2)) (pt k2 2) (fun _ => rfl) rfl (hd 4 rfl) (by kernel_rfl) (hK _ (Mo.refl _))))
  ·exact og_eq _ rfl (fun f wf hq hd K hK => have Q2 := Q2.mo hq; go_run rfl (wo_load 34 (.tmp 17) (pt k2 2) (.int .u64 (l2 (b))) rfl (hd 5 rfl) (run_one Q2 34 2 rfl Try.underlying34 rfl) (hK _ (Mo.refl _))))
  ·exact og_eq _ rfl (fun f wf hq hd K hK => go_run rfl (wo_mv (.tmp 6) (.int .u64 (c2 a b)) (fun _ => rfl) rfl (hK _ (Mo.refl _))))
  ·exact og_eq _ rfl (fun f wf hq hd K hK => go_run rfl (wo_val (.tuple #[.int .u64 ((l2 (a) + l2 (b) + c2 a b) % 18446744073709551616), .int .u64 (c3 a b)]) (add64_op (l2 a) (l2 b) (c2 a b) ha.2.2.1.1 hb.2.2.1.1 hc.2.1.1 hc.2.1.2 _ _ _ (by exact (hd 3 rfl)) (by exact (hd 6 rfl)) (by exact (hd 7 rfl)) _ _ _ _ _ _ _) (hK _ (Mo.refl _))))
  ·exact og_eq _ rfl (fun f wf hq hd K hK => go_run rfl (wo_mv (.tmp 20) (.tuple #[.int .u64 ((l2 (a) + l2 (b) + c2 a b) % 18446744073709551616), .int .u64 (c3 a b)]) (fun _ => rfl) (hd 8 rfl) (hK _ (Mo.refl _))))
  ·exact og_eq _ rfl (fun f wf hq hd K hK => go_run rfl (wo_un (fun v => Instr.extract v 0) (.tmp 11) (.tuple #[.int .u64 ((l2 (a) + l2 (b) + c2 a b) % 18446744073709551616), .int .u64 (c3 a b)]) (.int .u64 ((l2 (a) + l2 (b) + c2 a b) % 18446744073709551616)) (fun _ => rfl) (hd 9 rfl) (by kernel_rfl) (hK _ (Mo.refl _))))
  ·exact og_eq _ rfl (fun f wf hq hd K hK => go_run rfl (wo_un (fun v => Instr.extract v 1) (.tmp 11) (.tuple #[.int .u64 ((l2 (a) + l2 (b) + c2 a b) % 18446744073709551616), .int .u64 (c3 a b)]) (.int .u64 (c3 a b)) (fun _ => rfl) (hd 9 rfl) (by kernel_rfl) (hK _ (Mo.refl _))))
  ·exact og_eq _ rfl (fun f wf hq hd K hK => go_run rfl (wo_bin (fun x y => Instr.indexAt 36 x y) (.tmp 5) (.tmp 12) (pt k4 0) (.int .i64 (2)) (pt k4 2) (fun _ => rfl) rfl (hd 0 rfl) (by kernel_rfl) (hK _ (Mo.refl _))))
 intro kf9 w9 hq hR hne
 replace Q1 := Q1.mo hq
 replace Q2 := Q2.mo hq
 replace Q3 := Q3.mo hq
 replace Q4 := Q4.mo hq
 replace M := M.trans hq
 clear hq hR hne
 refine wl_st1 34 (.tmp 23) (.tmp 21) k4 2 (.int .u64 ((l2 (a) + l2 (b) + c2 a b) % 18446744073709551616)) _ [.int .u64 ((l0 (a) + l0 (b) + 0) % 18446744073709551616), .int .u64 ((l1 (a) + l1 (b) + c1 a b) % 18446744073709551616), .int .u64 ((l2 (a) + l2 (b) + c2 a b) % 18446744073709551616), .int .u64 0, .int .u64 0] Q4 rfl rfl rfl rfl rfl sz22 rfl rfl rfl rfl ?_
 intro w10 hS Qn
 replace Q4 := Qn
 clear Qn
 replace Q1 := hS.other _ _ ne_k1_k4 Q1
 replace Q2 := hS.other _ _ ne_k2_k4 Q2
 replace Q3 := hS.other _ _ ne_k3_k4 Q3
 replace M := hS.mo _ N_k4 M
 clear hS
 refine wl_m (.tmp 22) (.int .u64 (c3 a b)) ?_
 refine w_nil (xn_blk (xn_then (w_reg ?_)))
 refine wl_b .add 3 (.tmp 8) (.const (.int .i64 (1))) (.int .i64 (2)) (.int .i64 (1)) (.int .i64 (3)) (by kernel_rfl) ?_
 refine wl_m (.tmp 24) (.int .i64 (3)) ?_
 refine w_nil ?_
 refine xn_rounds ?_
 refine w_seq (w_reg ?_)
 refine wl_b .lss 3 (.tmp 8) (.const (.int .i64 (5))) (.int .i64 (3)) (.int .i64 (5)) (.bool true) (by kernel_rfl) ?_
 refine w_nil (xn_then (w_seq (w_condT rfl (w_skip (xn_then (w_seq (w_block (w_seq (w_reg ?_)))))))))
 refine wl_m (.tmp 8) (.int .i64 (3)) ?_
 refine wl_m (.tmp 10) (.int .i64 (3)) ?_
 refine w_nil (xn_then ?_)
 refine w_any 13 [.inl (.int .i64 (3)), .inl (.int .i64 (3)), .inl (pt k1 3), .inl (.int .u64 (l3 (a))), .inl (.int .i64 (3)), .inl (pt k2 3), .inl (.int .u64 (l3 (b))), .inl (.int .u64 (c3 a b)), .inl (.tuple #[.int .u64 ((l3 (a) + l3 (b) + c3 a b) % 18446744073709551616), .int .u64 (c4 a b)]), .inl (.tuple #[.int .u64 ((l3 (a) + l3 (b) + c3 a b) % 18446744073709551616), .int .u64 (c4 a b)]), .inl (.int .u64 ((l3 (a) + l3 (b) + c3 a b) % 18446744073709551616)), .inl (.int .u64 (c4 a b)), .inl (pt k4 3)] [11] (by kernel_rfl) (by kernel_rfl) (by kernel_rfl) (by kernel_rfl) rfl (by kernel_rfl) (by kernel_rfl) (late_cons ⟨_, _, rfl, rfl, fun _ _ _ _ h => h, fun f hd => ⟨rfl, la_un (fun v => Instr.extract v 1) (.tmp 11) (.tuple #[.int .u64 ((l3 (a) + l3 (b) + c3 a b) % 18446744073709551616), .int .u64 (c4 a b)]) (.int .u64 (c4 a b)) (fun _ => rfl) (hd 9 rfl _ rfl) (fun w => by kernel_rfl)⟩⟩ late_nil) ?_ ?_ ?_
 ·exact Ds.none rfl
 ·refine ea_cons ?_ (ea_cons ?_ (ea_cons ?_ (ea_cons ?_ (ea_cons ?_ (ea_cons ?_ (ea_cons ?_ (ea_cons ?_ (ea_cons ?_ (ea_cons ?_ (ea_cons ?_ (ea_cons ?_ (ea_cons ?_ (ea_nil)))))))))))))
  ·exact og_eq _ rfl (fun f wf hq hd K hK => go_run rfl (wo_mv (.tmp 7) (.int .i64 (3)) (fun _ => rfl) rfl (hK _ (Mo.refl _))))
  ·exact og_eq _ rfl (fun f wf hq hd K hK => go_run rfl (wo_mv (.tmp 7) (.int .i64 (3)) (fun _ => rfl) rfl (hK _ (Mo.refl _))))
  ·exact og_eq _ rfl (fun f wf hq hd K hK => go_run rfl (wo_bin (fun x y => Instr.indexAt 36 x y) (.tmp 2) (.tmp 13) (pt k1 0) (.int .i64 (3)) (pt k1 3) (fun _ => rfl) rfl (hd 1 rfl) (by kernel_rfl) (hK _ (Mo.refl _))))
  ·exact og_eq _ rfl (fun f wf hq hd K hK => have Q1 := Q1.mo hq; go_run rfl (wo_load 34 (.tmp 14) (pt k1 3) (.int .u64 (l3 (a))) rfl (hd 2 rfl) (run_one Q1 34 3 rfl Try.underlying34 rfl) (hK _ (Mo.refl _))))
  ·exact og_eq _ rfl (fun f wf hq hd K hK => go_run rfl (wo_mv (.tmp 7) (.int .i64 (3)) (fun _ => rfl) rfl (hK _ (Mo.refl _))))
  ·exact og_eq _ rfl (fun f wf hq hd K hK => go_run rfl (wo_bin (fun x y => Instr.indexAt 36 x y) (.tmp 3) (.tmp 16) (pt k2 0) (.int .i64 (3)) (pt k2 3) (fun _ => rfl) rfl (hd 4 rfl) (by kernel_rfl) (hK _ (Mo.refl _))))
  ·exact og_eq _ rfl (fun f wf hq hd K hK => have Q2 := Q2.mo hq; go_run rfl (wo_load 34 (.tmp 17) (pt k2 3) (.int .u64 (l3 (b))) rfl (hd 5 rfl) (run_one Q2 34 3 rfl Try.underlying34 rfl) (hK _ (Mo.refl _))))
  ·exact og_eq _ rfl (fun f wf hq hd K hK => go_run rfl (wo_mv (.tmp 6) (.int .u64 (c3 a b)) (fun _ => rfl) rfl (hK _ (Mo.refl _))))
  ·exact og_eq _ rfl (fun f wf hq hd K hK => go_run rfl (wo_val (.tuple #[.int .u64 ((l3 (a) + l3 (b) + c3 a b) % 18446744073709551616), .int .u64 (c4 a b)]) (add64_op (l3 a) (l3 b) (c3 a b) ha.2.2.2.1.1 hb.2.2.2.1.1 hc.2.2.1.1 hc.2.2.1.2 _ _ _ (by exact (hd 3 rfl)) (by exact (hd 6 rfl)) (by exact (hd 7 rfl)) _ _ _ _ _ _ _) (hK _ (Mo.refl _))))
  ·exact og_eq _ rfl (fun f wf hq hd K hK => go_run rfl (wo_mv (.tmp 20) (.tuple #[.int .u64 ((l3 (a) + l3 (b) + c3 a b) % 18446744073709551616), .int .u64 (c4 a b)]) (fun _ => rfl) (hd 8 rfl) (hK _ (Mo.refl _))))
  ·exact og_eq _ rfl (fun f wf hq hd K hK => go_run rfl (wo_un (fun v => Instr.extract v 0) (.tmp 11) (.tuple #[.int .u64 ((l3 (a) + l3 (b) + c3 a b) % 18446744073709551616), .int .u64 (c4 a b)]) (.int .u64 ((l3 (a) + l3 (b) + c3 a b) % 18446744073709551616)) (fun _ => rfl) (hd 9 rfl) (by kernel_rfl) (hK _ (Mo.refl _))))
  ·exact og_eq _ rfl (fun f wf hq hd K hK => go_run rfl (wo_un (fun v => Instr.extract v 1) (.tmp 11) (.tuple #[.int .u64 ((l3 (a) + l3 (b) + c3 a b) % 18446744073709551616), .int .u64 (c4 a b)]) (.int .u64 (c4 a b)) (fun _ => rfl) (hd 9 rfl) (by kernel_rfl) (hK _ (Mo.refl _))))
  ·exact og_eq _ rfl (fun f wf hq hd K hK => go_run rfl (wo_bin (fun x y => Instr.indexAt 36 x y) (.tmp 5) (.tmp 12) (pt k4 0) (.int .i64 (3)) (pt k4 3) (fun _ => rfl) rfl (hd 0 rfl) (by kernel_rfl) (hK _ (Mo.refl _))))
 intro kf11 w11 hq hR hne
 replace Q1 := Q1.mo hq
 replace Q2 := Q2.mo hq
 replace Q3 := Q3.mo hq
 replace Q4 := Q4.mo hq
 replace M := M.trans hq
 clear hq hR hne
 refine wl_st1 34 (.tmp 23) (.tmp 21) k4 3 (.int .u64 ((l3 (a) + l3 (b) + c3 a b) % 18446744073709551616)) _ [.int .u64 ((l0 (a) + l0 (b) + 0) % 18446744073709551616), .int .u64 ((l1 (a) + l1 (b) + c1 a b) % 18446744073709551616), .int .u64 ((l2 (a) + l2 (b) + c2 a b) % 18446744073709551616), .int .u64 ((l3 (a) + l3 (b) + c3 a b) % 18446744073709551616), .int .u64 0] Q4 rfl rfl rfl rfl rfl sz22 rfl rfl rfl rfl ?_
 intro w12 hS Qn
 replace Q4 := Qn
 clear Qn
 replace Q1 := hS.other _ _ ne_k1_k4 Q1
 replace Q2 := hS.other _ _ ne_k2_k4 Q2
 replace Q3 := hS.other _ _ ne_k3_k4 Q3
 replace M := hS.mo _ N_k4 M
 clear hS
 refine wl_m (.tmp 22) (.int .u64 (c4 a b)) ?_
 refine w_nil (xn_blk (xn_then (w_reg ?_)))
 refine wl_b .add 3 (.tmp 8) (.const (.int .i64 (1))) (.int .i64 (3)) (.int .i64 (1)) (.int .i64 (4)) (by kernel_rfl) ?_
 refine wl_m (.tmp 24) (.int .i64 (4)) ?_
 refine w_nil ?_
 refine xn_rounds ?_
 refine w_seq (w_reg ?_)
 refine wl_b .lss 3 (.tmp 8) (.const (.int .i64 (5))) (.int .i64 (4)) (.int .i64 (5)) (.bool true) (by kernel_rfl) ?_
 refine w_nil (xn_then (w_seq (w_condT rfl (w_skip (xn_then (w_seq (w_block (w_seq (w_reg ?_)))))))))
 refine wl_m (.tmp 8) (.int .i64 (4)) ?_
 refine wl_m (.tmp 10) (.int .i64 (4)) ?_
 refine w_nil (xn_then ?_)
 refine w_any 13 [.inl (.int .i64 (4)), .inl (.int .i64 (4)), .inl (pt k1 4), .inl (.int .u64 (l4 (a))), .inl (.int .i64 (4)), .inl (pt k2 4), .inl (.int .u64 (l4 (b))), .inl (.int .u64 (c4 a b)), .inl (.tuple #[.int .u64 ((l4 (a) + l4 (b) + c4 a b) % 18446744073709551616), .int .u64 ((l4 (a) + l4 (b) + c4 a b) / 18446744073709551616)]), .inl (.tuple #[.int .u64 ((l4 (a) + l4 (b) + c4 a b) % 18446744073709551616), .int .u64 ((l4 (a) + l4 (b) + c4 a b) / 18446744073709551616)]), .inl (.int .u64 ((l4 (a) + l4 (b) + c4 a b) % 18446744073709551616)), .inl (.int .u64 ((l4 (a) + l4 (b) + c4 a b) / 18446744073709551616)), .inl (pt k4 4)] [11] (by kernel_rfl) (by kernel_rfl) (by kernel_rfl) (by kernel_rfl) rfl (by kernel_rfl) (by kernel_rfl) (late_cons ⟨_, _, rfl, rfl, fun _ _ _ _ h => h, fun f hd => ⟨rfl, la_un (fun v => Instr.extract v 1) (.tmp 11) (.tuple #[.int .u64 ((l4 (a) + l4 (b) + c4 a b) % 18446744073709551616), .int .u64 ((l4 (a) + l4 (b) + c4 a b) / 18446744073709551616)]) (.int .u64 ((l4 (a) + l4 (b) + c4 a b) / 18446744073709551616)) (fun _ => rfl) (hd 9 rfl _ rfl) (fun w => by kernel_rfl)⟩⟩ late_nil) ?_ ?_ ?_
 ·exact Ds.none rfl
 ·refine ea_cons ?_ (ea_cons ?_ (ea_cons ?_ (ea_cons ?_ (ea_cons ?_ (ea_cons ?_ (ea_cons ?_ (ea_cons ?_ (ea_cons ?_ (ea_cons ?_ (ea_cons ?_ (ea_cons ?_ (ea_cons ?_ (ea_nil)))))))))))))
  ·exact og_eq _ rfl (fun f wf hq hd K hK => go_run rfl (wo_mv (.tmp 7) (.int .i64 (4)) (fun _ => rfl) rfl (hK _ (Mo.refl _))))
  ·exact og_eq _ rfl (fun f wf hq hd K hK => go_run rfl (wo_mv (.tmp 7) (.int .i64 (4)) (fun _ => rfl) rfl (hK _ (Mo.refl _))))
  ·exact og_eq _ rfl (fun f wf hq hd K hK => go_run rfl (wo_bin (fun x y => Instr.indexAt 36 x y) (.tmp 2) (.tmp 13) (pt k1 0) (.int .i64 (4)) (pt k1 4) (fun _ => rfl) rfl (hd 1 rfl) (by kernel_rfl) (hK _ (Mo.refl _))))
  ·exact og_eq _ rfl (fun f wf hq hd K hK => have Q1 := Q1.mo hq; go_run rfl (wo_load 34 (.tmp 14) (pt k1 4) (.int .u64 (l4 (a))) rfl (hd 2 rfl) (run_one Q1 34 4 rfl Try.underlying34 rfl) (hK _ (Mo.refl _))))
  ·exact og_eq _ rfl (fun f wf hq hd K hK => go_run rfl (wo_mv (.tmp 7) (.int .i64 (4)) (fun _ => rfl) rfl (hK _ (Mo.refl _))))
  ·exact og_eq _ rfl (fun f wf hq hd K hK => go_run rfl (wo_bin (fun x y => Instr.indexAt 36 x y) (.tmp 3) (.tmp 16) (pt k2 0) (.int .i64 (4)) (pt k2 4) (fun _ => rfl) rfl (hd 4 rfl) (by kernel_rfl) (hK _ (Mo.refl _))))
  ·exact og_eq _ rfl (fun f wf hq hd K hK => have Q2 := Q2.mo hq; go_run rfl (wo_load 34 (.tmp 17) (pt k2 4) (.int .u64 (l4 (b))) rfl (hd 5 rfl) (run_one Q2 34 4 rfl Try.underlying34 rfl) (hK _ (Mo.refl _))))
  ·exact og_eq _ rfl (fun f wf hq hd K hK => go_run rfl (wo_mv (.tmp 6) (.int .u64 (c4 a b)) (fun _ => rfl) rfl (hK _ (Mo.refl _))))
  ·exact og_eq _ rfl (fun f wf hq hd K hK => go_run rfl (wo_val (.tuple #[.int .u64 ((l4 (a) + l4 (b) + c4 a b) % 18446744073709551616), .int .u64 ((l4 (a) + l4 (b) + c4 a b) / 18446744073709551616)]) (add64_op (l4 a) (l4 b) (c4 a b) ha.2.2.2.2.1 hb.2.2.2.2.1 hc.2.2.2.1 hc.2.2.2.2 _ _ _ (by exact (hd 3 rfl)) (by exact (hd 6 rfl)) (by exact (hd 7 rfl)) _ _ _ _ _ _ _) (hK _ (Mo.refl _))))
  ·exact og_eq _ rfl (fun f wf hq hd K hK => go_run rfl (wo_mv (.tmp 20) (.tuple #[.int .u64 ((l4 (a) + l4 (b) + c4 a b) % 18446744073709551616), .int .u64 ((l4 (a) + l4 (b) + c4 a b) / 18446744073709551616)]) (fun _ => rfl) (hd 8 rfl) (hK _ (Mo.refl _))))
  ·exact og_eq _ rfl (fun f wf hq hd K hK => go_run rfl (wo_un (fun v => Instr.extract v 0) (.tmp 11) (.tuple #[.int .u64 ((l4 (a) + l4 (b) + c4 a b) % 18446744073709551616), .int .u64 ((l4 (a) + l4 (b) + c4 a b) / 18446744073709551616)]) (.int .u64 ((l4 (a) + l4 (b) + c4 a b) % 18446744073709551616)) (fun _ => rfl) (hd 9 rfl) (by kernel_rfl) (hK _ (Mo.refl _))))
  ·exact og_eq _ rfl (fun f wf hq hd K hK => go_run rfl (wo_un (fun v => Instr.extract v 1) (.tmp 11) (.tuple #[.int .u64 ((l4 (a) + l4 (b) + c4 a b) % 18446744073709551616), .int .u64 ((l4 (a) + l4 (b) + c4 a b) / 18446744073709551616)]) (.int .u64 ((l4 (a) + l4 (b) + c4 a b) / 18446744073709551616)) (fun _ => rfl) (hd 9 rfl) (by kernel_rfl) (hK _ (Mo.refl _))))
  ·exact og_eq _ rfl (fun f wf hq hd K hK => go_run rfl (wo_bin (fun x y => Instr.indexAt 36 x y) (.tmp 5) (.tmp 12) (pt k4 0) (.int .i64 (4)) (pt k4 4) (fun _ => rfl) rfl (hd 0 rfl) (by kernel_rfl) (hK _ (Mo.refl _))))
 intro kf13 w13 hq hR hne
 replace Q1 := Q1.mo hq
 replace Q2 := Q2.mo hq
 replace Q3 := Q3.mo hq
 replace Q4 := Q4.mo hq
 replace M := M.trans hq
 clear hq hR hne
 refine wl_st1 34 (.tmp 23) (.tmp 21) k4 4 (.int .u64 ((l4 (a) + l4 (b) + c4 a b) % 18446744073709551616)) _ [.int .u64 ((l0 (a) + l0 (b) + 0) % 18446744073709551616), .int .u64 ((l1 (a) + l1 (b) + c1 a b) % 18446744073709551616), .int .u64 ((l2 (a) + l2 (b) + c2 a b) % 18446744073709551616), .int .u64 ((l3 (a) + l3 (b) + c3 a b) % 18446744073709551616), .int .u64 ((l4 (a) + l4 (b) + c4 a b) % 18446744073709551616)] Q4 rfl rfl rfl rfl rfl sz22 rfl rfl rfl rfl ?_
 intro w14 hS Qn
 replace Q4 := Qn
 clear Qn
 replace Q1 := hS.other _ _ ne_k1_k4 Q1
 replace Q2 := hS.other _ _ ne_k2_k4 Q2
 replace Q3 := hS.other _ _ ne_k3_k4 Q3
 replace M := hS.mo _ N_k4 M
 clear hS
 refine wl_m (.tmp 22) (.int .u64 ((l4 (a) + l4 (b) + c4 a b) / 18446744073709551616)) ?_
 refine w_nil (xn_blk (xn_then (w_reg ?_)))
 refine wl_b .add 3 (.tmp 8) (.const (.int .i64 (1))) (.int .i64 (4)) (.int .i64 (1)) (.int .i64 (5)) (by kernel_rfl) ?_
 refine wl_m (.tmp 24) (.int .i64 (5)) ?_
 refine w_nil ?_
 refine xn_rounds ?_
 refine w_seq (w_reg ?_)
 refine wl_b .lss 3 (.tmp 8) (.const (.int .i64 (5))) (.int .i64 (5)) (.int .i64 (5)) (.bool false) (by kernel_rfl) ?_
 refine w_nil (xn_then (w_seq (w_condF rfl (w_exit (xx_then (xx_then (xx_blk (xn_then (w_seq (w_reg ?_))))))))))
 refine wl_l 36 (.tmp 5) (pt k4 0) (.agg #[.int .u64 ((l0 (a) + l0 (b) + 0) % 18446744073709551616), .int .u64 ((l1 (a) + l1 (b) + c1 a b) % 18446744073709551616), .int .u64 ((l2 (a) + l2 (b) + c2 a b) % 18446744073709551616), .int .u64 ((l3 (a) + l3 (b) + c3 a b) % 18446744073709551616), .int .u64 ((l4 (a) + l4 (b) + c4 a b) % 18446744073709551616)]) (run_row Q4 36 0 5 _ rfl Try.underlying36 rfl sz31) ?_
 refine wl_st 36 (.tmp 4) (.tmp 25) k3 0 #[.int .u64 ((l0 (a) + l0 (b) + 0) % 18446744073709551616), .int .u64 ((l1 (a) + l1 (b) + c1 a b) % 18446744073709551616), .int .u64 ((l2 (a) + l2 (b) + c2 a b) % 18446744073709551616), .int .u64 ((l3 (a) + l3 (b) + c3 a b) % 18446744073709551616), .int .u64 ((l4 (a) + l4 (b) + c4 a b) % 18446744073709551616)] _ [.int .u64 ((l0 (a) + l0 (b) + 0) % 18446744073709551616), .int .u64 ((l1 (a) + l1 (b) + c1 a b) % 18446744073709551616), .int .u64 ((l2 (a) + l2 (b) + c2 a b) % 18446744073709551616), .int .u64 ((l3 (a) + l3 (b) + c3 a b) % 18446744073709551616), .int .u64 ((l4 (a) + l4 (b) + c4 a b) % 18446744073709551616)] Q3 rfl rfl rfl rfl rfl sz31 rfl rfl rfl ?_
 intro w15 hS Qn
 replace Q3 := Qn
 clear Qn
 replace Q1 := hS.other _ _ ne_k1_k3 Q1
 replace Q2 := hS.other _ _ ne_k2_k3 Q2
 replace Q4 := hS.other _ _ ne_k3_k4.symm Q4
 replace M := hS.mo _ N_k3 M
 clear hS
 refine w_nil (xn_then (w_ret ?_))
 exact w_ret1 _ (.agg #[.int .u64 ((l0 (a) + l0 (b) + 0) % 18446744073709551616), .int .u64 ((l1 (a) + l1 (b) + c1 a b) % 18446744073709551616), .int .u64 ((l2 (a) + l2 (b) + c2 a b) % 18446744073709551616), .int .u64 ((l3 (a) + l3 (b) + c3 a b) % 18446744073709551616), .int .u64 ((l4 (a) + l4 (b) + c4 a b) % 18446744073709551616)]) rfl ⟨k3, rfl, (run_row Q3 36 0 5 _ rfl Try.underlying36 rfl sz31)⟩ ⟨by rw [show wv (a + b) = _ from rfl]; unfold wv; rw [e0, e1, e2, e3, e4], M⟩
end
end Go.Proofs.Ythfemlhmnjfjiaa

/-
 Limbs at a place; what is done with whole words.
-/
namespace Go.Proofs.Ythfemlhmnjfjiaa
open Go.RowKit
theorem notU {x y : Int} (h0 : 0 ≤ x ∧ x < 18446744073709551616) (h : y = 18446744073709551615 - x) (w : World) : (Op.unary .xor (.int .u64 x)).run Try.prog w = .ok (.int .u64 y) w := by
 have e : (Op.unary .xor (.int .u64 x)).run Try.prog w = .ok (.int .u64 (bits .xor .u64 IntKind.u64.max x)) w := by kernel_rfl
 rw [e, bnot x h0.1 h0.2, h]
theorem ltN {a b : Nat} {r : Bool} (h : decide (a < b) = r) (x y : Operand) (w : World) : (do eqGuard .lss 3 x y (.int .i64 (a : Int)) (.int .i64 (b : Int)); binOp .lss 3 (.int .i64 (a : Int)) (.int .i64 (b : Int))).run Try.prog w = .ok (.bool r) w := by
 have e : (do eqGuard .lss 3 x y (.int .i64 (a : Int)) (.int .i64 (b : Int)); binOp .lss 3 (.int .i64 (a : Int)) (.int .i64 (b : Int))).run Try.prog w = .ok (.bool (decide ((a : Int) < (b : Int)))) w := by kernel_rfl
 rw [e, ← h]; simp
theorem add1N {k : Nat} (hk : k ≤ 9223372036854775806) (x y : Operand) (w : World) : (do eqGuard .add 3 x y (.int .i64 (k : Int)) (.int .i64 1); binOp .add 3 (.int .i64 (k : Int)) (.int .i64 1)).run Try.prog w = .ok (.int .i64 ((k + 1 : Nat) : Int)) w := by
 have e : (do eqGuard .add 3 x y (.int .i64 (k : Int)) (.int .i64 1); binOp .add 3 (.int .i64 (k : Int)) (.int .i64 1)).run Try.prog w = .ok (.int .i64 (IntKind.i64.wrap ((k : Int) + 1))) w := by kernel_rfl
 have e2 : IntKind.i64.wrap ((k : Int) + 1) = ((k + 1 : Nat) : Int) := by rw [IntKind.wrap_i64]; omega
 rw [e, e2]
end Go.Proofs.Ythfemlhmnjfjiaa

/-
 minus, and the document's bit and AddWide.
-/
namespace Go.Proofs.Ythfemlhmnjfjiaa
open Go.RowKit
section
variable {w : World}
theorem minus_n (a : Int) : Calls Try.prog 89 #[wv a] w fun e w' => e = .returned (wv (-a)) ∧ Mo w w' := by
 have hl := l_bd a
 have hn := not_l a
 refine w_enter 17 Try.func89 Try.ntmps89 rfl rfl ?_
 have M : Mo w w := Mo.refl _
 refine w_seq (w_reg ?_)
 refine wl_box 36 (.tmp 0) _ (#[.int .u64 (l0 (a)), .int .u64 (l1 (a)), .int .u64 (l2 (a)), .int .u64 (l3 (a)), .int .u64 (l4 (a))]) rfl rfl (fun _ => by kernel_rfl) rfl ?_
 intro k1 w1 hk hz hq Q1
 have N_k1 : w.heap.size ≤ k1 := by have := M.size; omega
 replace M := M.trans hq
 clear hk hz hq
 refine wl_alloc 36 #[.int .u64 0, .int .u64 0, .int .u64 0, .int .u64 0, .int .u64 0] rfl (fun _ => by kernel_rfl) rfl ?_
 intro k2 w2 hk hz hq Q2
 have ne_k1_k2 : k1 ≠ k2 := by have := Q1.lt; omega
 have N_k2 : w.heap.size ≤ k2 := by have := M.size; omega
 replace Q1 := Q1.mo hq
 replace M := M.trans hq
 clear hk hz hq
 refine w_nil (xn_then (w_seq (w_seq (w_reg ?_))))
 refine wl_m (.const (.int .i64 (0))) (.int .i64 (0)) ?_
 refine w_nil (xn_then (w_block ?_))
 refine w_rounds 5 ?_
 refine w_seq (w_reg ?_)
 refine wl_b .lss 3 (.tmp 4) (.const (.int .i64 (5))) (.int .i64 (0)) (.int .i64 (5)) (.bool true) (by kernel_rfl) ?_
 refine w_nil (xn_then (w_seq (w_condT rfl (w_skip (xn_then (w_seq (w_block (w_seq (w_reg ?_)))))))))
 refine wl_m (.tmp 4) (.int .i64 (0)) ?_
 refine wl_m (.tmp 6) (.int .i64 (0)) ?_
 refine w_nil (xn_then (w_reg ?_))
 refine wl_m (.tmp 3) (.int .i64 (0)) ?_
 refine wl_m (.tmp 3) (.int .i64 (0)) ?_
 refine wl_bin (fun x y => Instr.indexAt 36 x y) (.tmp 1) (.tmp 8) (pt k1 0) (.int .i64 (0)) (pt k1 0) (fun _ => rfl) rfl rfl (by kernel_rfl) rfl ?_
 refine wl_l 34 (.tmp 9) (pt k1 0) (.int .u64 (l0 (a))) (run_one Q1 34 0 rfl Try.underlying34 rfl) ?_
 refine wl_un (fun v => Op.unary .xor v) (.tmp 10) (.int .u64 (l0 (a))) (.int .u64 (l0 (-1 - a))) (fun _ => rfl) rfl (notU hl.1 hn.1 _) rfl ?_
 refine wl_bin (fun x y => Instr.indexAt 36 x y) (.tmp 1) (.tmp 7) (pt k1 0) (.int .i64 (0)) (pt k1 0) (fun _ => rfl) rfl rfl (by kernel_rfl) rfl ?_
 refine wl_st1 34 (.tmp 12) (.tmp 11) k1 0 (.int .u64 (l0 (-1 - a))) _ [.int .u64 (l0 (-1 - a)), .int .u64 (l1 (a)), .int .u64 (l2 (a)), .int .u64 (l3 (a)), .int .u64 (l4 (a))] Q1 rfl rfl rfl rfl rfl sz22 rfl rfl rfl rfl ?_
 intro w3 hS Qn
 replace Q1 := Qn
 clear Qn
 replace Q2 := hS.other _ _ ne_k1_k2.symm Q2
 replace M := hS.mo _ N_k1 M
 clear hS
 refine w_nil (xn_blk (xn_then (w_reg ?_)))
 refine wl_b .add 3 (.tmp 4) (.const (.int .i64 (1))) (.int .i64 (0)) (.int .i64 (1)) (.int .i64 (1)) (by kernel_rfl) ?_
 refine wl_m (.tmp 13) (.int .i64 (1)) ?_
 refine w_nil ?_
 refine xn_rounds ?_
 refine w_seq (w_reg ?_)
 refine wl_b .lss 3 (.tmp 4) (.const (.int .i64 (5))) (.int .i64 (1)) (.int .i64 (5)) (.bool true) (by kernel_rfl) ?_
 refine w_nil (xn_then (w_seq (w_condT rfl (w_skip (xn_then (w_seq (w_block (w_seq (w_reg ?_)))))))))
 refine wl_m (.tmp 4) (.int .i64 (1)) ?_
 refine wl_m (.tmp 6) (.int .i64 (1)) ?_
 refine w_nil (xn_then (w_reg ?_))
 refine wl_m (.tmp 3) (.int .i64 (1)) ?_
 refine wl_m (.tmp 3) (.int .i64 (1)) ?_
 refine wl_bin (fun x y => Instr.indexAt 36 x y) (.tmp 1) (.tmp 8) (pt k1 0) (.int .i64 (1)) (pt k1 1) (fun _ => rfl) rfl rfl (by kernel_rfl) rfl ?_
 refine wl_l 34 (.tmp 9) (pt k1 1) (.int .u64 (l1 (a))) (run_one Q1 34 1 rfl Try.underlying34 rfl) ?_
 refine wl_un (fun v => Op.unary .xor v) (.tmp 10) (.int .u64 (l1 (a))) (.int .u64 (l1 (-1 - a))) (fun _ => rfl) rfl (notU hl.2.1 hn.2.1 _) rfl ?_
 refine wl_bin (fun x y => Instr.indexAt 36 x y) (.tmp 1) (.tmp 7) (pt k1 0) (.int .i64 (1)) (pt k1 1) (fun _ => rfl) rfl rfl (by kernel_rfl) rfl ?_
 refine wl_st1 34 (.tmp 12) (.tmp 11) k1 1 (.int .u64 (l1 (-1 - a))) _ [.int .u64 (l0 (-1 - a)), .int .u64 (l1 (-1 - a)), .int .u64 (l2 (a)), .int .u64 (l3 (a)), .int .u64 (l4 (a))] Q1 rfl rfl rfl rfl rfl sz22 rfl rfl rfl rfl ?_
 intro w4 hS Qn
 replace Q1 := Qn
 clear Qn
 replace Q2 := hS.other _ _ ne_k1_k2.symm Q2
 replace M := hS.mo _ N_k1 M
 clear hS
 refine w_nil (xn_blk (xn_then (w_reg ?_)))
 refine wl_b .add 3 (.tmp 4) (.const (.int .i64 (1))) (.int .i64 (1)) (.int .i64 (1)) (.int .i64 (2)) (by kernel_rfl) ?_
 refine wl_m (.tmp 13) (.int .i64 (2)) ?_
 refine w_nil ?_
 refine xn_rounds ?_
 refine w_seq (w_reg ?_)
 refine wl_b .lss 3 (.tmp 4) (.const (.int .i64 (5))) (.int .i64 (2)) (.int .i64 (5)) (.bool true) (by kernel_rfl) ?_
 refine w_nil (xn_then (w_seq (w_condT rfl (w_skip (xn_then (w_seq (w_block (w_seq (w_reg ?_)))))))))
 refine wl_m (.tmp 4) (.int .i64 (2)) ?_
 refine wl_m (.tmp 6) (.int .i64 (2)) ?_
 refine w_nil (xn_then (w_reg ?_))
 refine wl_m (.tmp 3) (.int .i64 (2)) ?_
 refine wl_m (.tmp 3) (.int .i64 (2)) ?_
 refine wl_bin (fun x y => Instr.indexAt 36 x y) (.tmp 1) (.tmp 8) (pt k1 0) (.int .i64 (2)) (pt k1 2) (fun _ => rfl) rfl rfl (by kernel_rfl) rfl ?_
 refine wl_l 34 (.tmp 9) (pt k1 2) (.int .u64 (l2 (a))) (run_one Q1 34 2 rfl Try.underlying34 rfl) ?_
 refine wl_un (fun v => Op.unary .xor v) (.tmp 10) (.int .u64 (l2 (a))) (.int .u64 (l2 (-1 - a))) (fun _ => rfl) rfl (notU hl.2.2.1 hn.2.2.1 _) rfl ?_
 refine wl_bin (fun x y => Instr.indexAt 36 x y) (.tmp 1) (.tmp 7) (pt k1 0) (.int .i64 (2)) (pt k1 2) (fun _ => rfl) rfl rfl (by kernel_rfl) rfl ?_
 refine wl_st1 34 (.tmp 12) (.tmp 11) k1 2 (.int .u64 (l2 (-1 - a))) _ [.int .u64 (l0 (-1 - a)), .int .u64 (l1 (-1 - a)), .int .u64 (l2 (-1 - a)), .int .u64 (l3 (a)), .int .u64 (l4 (a))] Q1 rfl rfl rfl rfl rfl sz22 rfl rfl rfl rfl ?_
 intro w5 hS Qn
 replace Q1 := Qn
 clear Qn
 replace Q2 := hS.other _ _ ne_k1_k2.symm Q2
 replace M := hS.mo _ N_k1 M
 clear hS
 refine w_nil (xn_blk (xn_then (w_reg ?_)))
 refine wl_b .add 3 (.tmp 4) (.const (.int .i64 (1))) (.int .i64 (2)) (.int .i64 (1)) (.int .i64 (3)) (by kernel_rfl) ?_
 refine wl_m (.tmp 13) (.int .i64 (3)) ?_
 refine w_nil ?_
 refine xn_rounds ?_
 refine w_seq (w_reg ?_)
 refine wl_b .lss 3 (.tmp 4) (.const (.int .i64 (5))) (.int .i64 (3)) (.int .i64 (5)) (.bool true) (by kernel_rfl) ?_
 refine w_nil (xn_then (w_seq (w_condT rfl (w_skip (xn_then (w_seq (w_block (w_seq (w_reg ?_)))))))))
 refine wl_m (.tmp 4) (.int .i64 (3)) ?_
 refine wl_m (.tmp 6) (.int .i64 (3)) ?_
 refine w_nil (xn_then (w_reg ?_))
 refine wl_m (.tmp 3) (.int .i64 (3)) ?_
 refine wl_m (.tmp 3) (.int .i64 (3)) ?_
 refine wl_bin (fun x y => Instr.indexAt 36 x y) (.tmp 1) (.tmp 8) (pt k1 0) (.int .i64 (3)) (pt k1 3) (fun _ => rfl) rfl rfl (by kernel_rfl) rfl ?_
 refine wl_l 34 (.tmp 9) (pt k1 3) (.int .u64 (l3 (a))) (run_one Q1 34 3 rfl Try.underlying34 rfl) ?_
 refine wl_un (fun v => Op.unary .xor v) (.tmp 10) (.int .u64 (l3 (a))) (.int .u64 (l3 (-1 - a))) (fun _ => rfl) rfl (notU hl.2.2.2.1 hn.2.2.2.1 _) rfl ?_
 refine wl_bin (fun x y => Instr.indexAt 36 x y) (.tmp 1) (.tmp 7) (pt k1 0) (.int .i64 (3)) (pt k1 3) (fun _ => rfl) rfl rfl (by kernel_rfl) rfl ?_
 refine wl_st1 34 (.tmp 12) (.tmp 11) k1 3 (.int .u64 (l3 (-1 - a))) _ [.int .u64 (l0 (-1 - a)), .int .u64 (l1 (-1 - a)), .int .u64 (l2 (-1 - a)), .int .u64 (l3 (-1 - a)), .int .u64 (l4 (a))] Q1 rfl rfl rfl rfl rfl sz22 rfl rfl rfl rfl ?_
 intro w6 hS Qn
 replace Q1 := Qn
 clear Qn
 replace Q2 := hS.other _ _ ne_k1_k2.symm Q2
 replace M := hS.mo _ N_k1 M
 clear hS
 refine w_nil (xn_blk (xn_then (w_reg ?_)))
 refine wl_b .add 3 (.tmp 4) (.const (.int .i64 (1))) (.int .i64 (3)) (.int .i64 (1)) (.int .i64 (4)) (by kernel_rfl) ?_
 refine wl_m (.tmp 13) (.int .i64 (4)) ?_
 refine w_nil ?_
 refine xn_rounds ?_
 refine w_seq (w_reg ?_)
 refine wl_b .lss 3 (.tmp 4) (.const (.int .i64 (5))) (.int .i64 (4)) (.int .i64 (5)) (.bool true) (by kernel_rfl) ?_
 refine w_nil (xn_then (w_seq (w_condT rfl (w_skip (xn_then (w_seq (w_block (w_seq (w_reg ?_)))))))))
 refine wl_m (.tmp 4) (.int .i64 (4)) ?_
 refine wl_m (.tmp 6) (.int .i64 (4)) ?_
 refine w_nil (xn_then (w_reg ?_))
 refine wl_m (.tmp 3) (.int .i64 (4)) ?_
 refine wl_m (.tmp 3) (.int .i64 (4)) ?_
 refine wl_bin (fun x y => Instr.indexAt 36 x y) (.tmp 1) (.tmp 8) (pt k1 0) (.int .i64 (4)) (pt k1 4) (fun _ => rfl) rfl rfl (by kernel_rfl) rfl ?_
 refine wl_l 34 (.tmp 9) (pt k1 4) (.int .u64 (l4 (a))) (run_one Q1 34 4 rfl Try.underlying34 rfl) ?_
 refine wl_un (fun v => Op.unary .xor v) (.tmp 10) (.int .u64 (l4 (a))) (.int .u64 (l4 (-1 - a))) (fun _ => rfl) rfl (notU hl.2.2.2.2 hn.2.2.2.2 _) rfl ?_
 refine wl_bin (fun x y => Instr.indexAt 36 x y) (.tmp 1) (.tmp 7) (pt k1 0) (.int .i64 (4)) (pt k1 4) (fun _ => rfl) rfl rfl (by kernel_rfl) rfl ?_
 refine wl_st1 34 (.tmp 12) (.tmp 11) k1 4 (.int .u64 (l4 (-1 - a))) _ [.int .u64 (l0 (-1 - a)), .int .u64 (l1 (-1 - a)), .int .u64 (l2 (-1 - a)), .int .u64 (l3 (-1 - a)), .int .u64 (l4 (-1 - a))] Q1 rfl rfl rfl rfl rfl sz22 rfl rfl rfl rfl ?_
 intro w7 hS Qn
 replace Q1 := Qn
 clear Qn
 replace Q2 := hS.other _ _ ne_k1_k2.symm Q2
 replace M := hS.mo _ N_k1 M
 clear hS
 refine w_nil (xn_blk (xn_then (w_reg ?_)))
 refine wl_b .add 3 (.tmp 4) (.const (.int .i64 (1))) (.int .i64 (4)) (.int .i64 (1)) (.int .i64 (5)) (by kernel_rfl) ?_
 refine wl_m (.tmp 13) (.int .i64 (5)) ?_
 refine w_nil ?_
 refine xn_rounds ?_
 refine w_seq (w_reg ?_)
 refine wl_b .lss 3 (.tmp 4) (.const (.int .i64 (5))) (.int .i64 (5)) (.int .i64 (5)) (.bool false) (by kernel_rfl) ?_
 refine w_nil (xn_then (w_seq (w_condF rfl (w_exit (xx_then (xx_then (xx_blk (xn_then (w_seq (w_reg ?_))))))))))
 refine wl_l 36 (.tmp 1) (pt k1 0) (.agg #[.int .u64 (l0 (-1 - a)), .int .u64 (l1 (-1 - a)), .int .u64 (l2 (-1 - a)), .int .u64 (l3 (-1 - a)), .int .u64 (l4 (-1 - a))]) (run_row Q1 36 0 5 _ rfl Try.underlying36 rfl sz31) ?_
 refine wl_build 36 [(0, (.const (.int .u64 (1))))] [(0, .int .u64 (1))] (.agg #[.int .u64 (1), .int .u64 0, .int .u64 0, .int .u64 0, .int .u64 0]) rfl rfl (by kernel_rfl) rfl ?_
 refine wl_call 63 [(.tmp 14), (.tmp 15)] _ [.agg #[.int .u64 (l0 (-1 - a)), .int .u64 (l1 (-1 - a)), .int .u64 (l2 (-1 - a)), .int .u64 (l3 (-1 - a)), .int .u64 (l4 (-1 - a))], .agg #[.int .u64 (1), .int .u64 0, .int .u64 0, .int .u64 0, .int .u64 0]] (.agg #[.int .u64 (l0 (-1 - a + 1)), .int .u64 (l1 (-1 - a + 1)), .int .u64 (l2 (-1 - a + 1)), .int .u64 (l3 (-1 - a + 1)), .int .u64 (l4 (-1 - a + 1))]) rfl rfl (fun _ _ => by kernel_rfl) (addw_n (-1 - a) 1) rfl ?_
 intro w8 hq
 replace Q1 := Q1.mo hq
 replace Q2 := Q2.mo hq
 replace M := M.trans hq
 clear hq
 refine wl_st 36 (.tmp 2) (.tmp 16) k2 0 #[.int .u64 (l0 (-1 - a + 1)), .int .u64 (l1 (-1 - a + 1)), .int .u64 (l2 (-1 - a + 1)), .int .u64 (l3 (-1 - a + 1)), .int .u64 (l4 (-1 - a + 1))] _ [.int .u64 (l0 (-1 - a + 1)), .int .u64 (l1 (-1 - a + 1)), .int .u64 (l2 (-1 - a + 1)), .int .u64 (l3 (-1 - a + 1)), .int .u64 (l4 (-1 - a + 1))] Q2 rfl rfl rfl rfl rfl sz31 rfl rfl rfl ?_
 intro w9 hS Qn
 replace Q2 := Qn
 clear Qn
 replace Q1 := hS.other _ _ ne_k1_k2 Q1
 replace M := hS.mo _ N_k2 M
 clear hS
 refine w_nil (xn_then (w_ret ?_))
 exact w_ret1 _ (.agg #[.int .u64 (l0 (-1 - a + 1)), .int .u64 (l1 (-1 - a + 1)), .int .u64 (l2 (-1 - a + 1)), .int .u64 (l3 (-1 - a + 1)), .int .u64 (l4 (-1 - a + 1))]) rfl ⟨k2, rfl, (run_row Q2 36 0 5 _ rfl Try.underlying36 rfl sz31)⟩ ⟨by rw [← show -1 - a + 1 = -a by omega]; rfl, M⟩
end
end Go.Proofs.Ythfemlhmnjfjiaa

/-
 Signs of wide numbers.
-/
namespace Go.Proofs.Ythfemlhmnjfjiaa
open Go.RowKit
theorem l4_small {n : Int} (h0 : 0 ≤ n) (h : n < MM) : l4 n = 0 := by unfold l4; unfold MM at h; omega
theorem ltI {a b : Int} {r : Bool} (h : decide (a < b) = r) (x y : Operand) (w : World) : (do eqGuard .lss 3 x y (.int .i64 a) (.int .i64 b); binOp .lss 3 (.int .i64 a) (.int .i64 b)).run Try.prog w = .ok (.bool r) w := by
 subst h; kernel_rfl
theorem gtI {a b : Int} {r : Bool} (h : decide (b < a) = r) (x y : Operand) (w : World) : (do eqGuard .gtr 3 x y (.int .i64 a) (.int .i64 b); binOp .gtr 3 (.int .i64 a) (.int .i64 b)).run Try.prog w = .ok (.bool r) w := by
 subst h; kernel_rfl
end Go.Proofs.Ythfemlhmnjfjiaa

/-
 Widen and Narrow, the program's and the document's.
-/
namespace Go.Proofs.Ythfemlhmnjfjiaa
open Go.RowKit
section
variable {w : World}
theorem widen_t (n s : Int) (hn0 : 0 ≤ n) (hn : n < MM) : Calls Try.prog 78 #[dc true n s] w fun e w' => e = .returned (wv (-n)) ∧ Mo w w' := by
 have h4 := l4_small hn0 hn
 have hv : (Value.agg #[.int .u64 (l0 n), .int .u64 (l1 n), .int .u64 (l2 n), .int .u64 (l3 n), .int .u64 0]) = wv n := by unfold wv; rw [h4]
 have hm : ∀ w, Calls Try.prog 89 #[.agg #[.int .u64 (l0 n), .int .u64 (l1 n), .int .u64 (l2 n), .int .u64 (l3 n), .int .u64 0]] w fun e w' => e = .returned (wv (-n)) ∧ Mo w w' := fun w => by rw [hv]; exact minus_n n
 refine w_enter 20 Try.func78 Try.ntmps78 rfl rfl ?_
 have M : Mo w w := Mo.refl _
 refine w_seq (w_reg ?_)
 refine wl_box 40 (.tmp 0) _ (#[.bool true, .int .u64 (l0 (n)), .int .u64 (l1 (n)), .int .u64 (l2 (n)), .int .u64 (l3 (n)), .int .i64 (s)]) rfl rfl (fun _ => by kernel_rfl) rfl ?_
 intro k1 w1 hk hz hq Q1
 have N_k1 : w.heap.size ≤ k1 := by have := M.size; omega
 replace M := M.trans hq
 clear hk hz hq
 refine wl_alloc 36 #[.int .u64 0, .int .u64 0, .int .u64 0, .int .u64 0, .int .u64 0] rfl (fun _ => by kernel_rfl) rfl ?_
 intro k2 w2 hk hz hq Q2
 have ne_k1_k2 : k1 ≠ k2 := by have := Q1.lt; omega
 have N_k2 : w.heap.size ≤ k2 := by have := M.size; omega
 replace Q1 := Q1.mo hq
 replace M := M.trans hq
 clear hk hz hq
 refine w_nil (xn_then (w_seq (w_reg ?_)))
 refine wl_alloc 36 #[.int .u64 0, .int .u64 0, .int .u64 0, .int .u64 0, .int .u64 0] rfl (fun _ => by kernel_rfl) rfl ?_
 intro k3 w3 hk hz hq Q3
 have ne_k1_k3 : k1 ≠ k3 := by have := Q1.lt; omega
 have ne_k2_k3 : k2 ≠ k3 := by have := Q2.lt; omega
 have N_k3 : w.heap.size ≤ k3 := by have := M.size; omega
 replace Q1 := Q1.mo hq
 replace Q2 := Q2.mo hq
 replace M := M.trans hq
 clear hk hz hq
 refine w_nil (xn_then (w_seq (w_seq (w_reg ?_))))
 refine wl_m (.const (.int .i64 (0))) (.int .i64 (0)) ?_
 refine w_nil (xn_then (w_block ?_))
 refine w_rounds 4 ?_
 refine w_seq (w_reg ?_)
 refine wl_b .lss 3 (.tmp 5) (.const (.int .i64 (4))) (.int .i64 (0)) (.int .i64 (4)) (.bool true) (by kernel_rfl) ?_
 refine w_nil (xn_then (w_seq (w_condT rfl (w_skip (xn_then (w_seq (w_block (w_seq (w_reg ?_)))))))))
 refine wl_m (.tmp 5) (.int .i64 (0)) ?_
 refine wl_m (.tmp 7) (.int .i64 (0)) ?_
 refine w_nil (xn_then (w_reg ?_))
 refine wl_m (.tmp 4) (.int .i64 (0)) ?_
 refine wl_m (.tmp 4) (.int .i64 (0)) ?_
 refine wl_f 40 1 (.tmp 1) (pt k1 0) (pt k1 1) ?_
 refine wl_bin (fun x y => Instr.indexAt 38 x y) (.tmp 10) (.tmp 9) (pt k1 1) (.int .i64 (0)) (pt k1 1) (fun _ => rfl) rfl rfl (by kernel_rfl) rfl ?_
 refine wl_l 34 (.tmp 11) (pt k1 1) (.int .u64 (l0 (n))) (run_one Q1 34 1 rfl Try.underlying34 rfl) ?_
 refine wl_bin (fun x y => Instr.indexAt 36 x y) (.tmp 3) (.tmp 8) (pt k3 0) (.int .i64 (0)) (pt k3 0) (fun _ => rfl) rfl rfl (by kernel_rfl) rfl ?_
 refine wl_st1 34 (.tmp 13) (.tmp 12) k3 0 (.int .u64 (l0 (n))) _ [.int .u64 (l0 (n)), .int .u64 0, .int .u64 0, .int .u64 0, .int .u64 0] Q3 rfl rfl rfl rfl rfl sz22 rfl rfl rfl rfl ?_
 intro w4 hS Qn
 replace Q3 := Qn
 clear Qn
 replace Q1 := hS.other _ _ ne_k1_k3 Q1
 replace Q2 := hS.other _ _ ne_k2_k3 Q2
 replace M := hS.mo _ N_k3 M
 clear hS
 refine w_nil (xn_blk (xn_then (w_reg ?_)))
 refine wl_b .add 3 (.tmp 5) (.const (.int .i64 (1))) (.int .i64 (0)) (.int .i64 (1)) (.int .i64 (1)) (by kernel_rfl) ?_
 refine wl_m (.tmp 14) (.int .i64 (1)) ?_
 refine w_nil ?_
 refine xn_rounds ?_
 refine w_seq (w_reg ?_)
 refine wl_b .lss 3 (.tmp 5) (.const (.int .i64 (4))) (.int .i64 (1)) (.int .i64 (4)) (.bool true) (by kernel_rfl) ?_
 refine w_nil (xn_then (w_seq (w_condT rfl (w_skip (xn_then (w_seq (w_block (w_seq (w_reg ?_)))))))))
 refine wl_m (.tmp 5) (.int .i64 (1)) ?_
 refine wl_m (.tmp 7) (.int .i64 (1)) ?_
 refine w_nil (xn_then (w_reg ?_))
 refine wl_m (.tmp 4) (.int .i64 (1)) ?_
 refine wl_m (.tmp 4) (.int .i64 (1)) ?_
 refine wl_f 40 1 (.tmp 1) (pt k1 0) (pt k1 1) ?_
 refine wl_bin (fun x y => Instr.indexAt 38 x y) (.tmp 10) (.tmp 9) (pt k1 1) (.int .i64 (1)) (pt k1 2) (fun _ => rfl) rfl rfl (by kernel_rfl) rfl ?_
 refine wl_l 34 (.tmp 11) (pt k1 2) (.int .u64 (l1 (n))) (run_one Q1 34 2 rfl Try.underlying34 rfl) ?_
 refine wl_bin (fun x y => Instr.indexAt 36 x y) (.tmp 3) (.tmp 8) (pt k3 0) (.int .i64 (1)) (pt k3 1) (fun _ => rfl) rfl rfl (by kernel_rfl) rfl ?_
 refine wl_st1 34 (.tmp 13) (.tmp 12) k3 1 (.int .u64 (l1 (n))) _ [.int .u64 (l0 (n)), .int .u64 (l1 (n)), .int .u64 0, .int .u64 0, .int .u64 0] Q3 rfl rfl rfl rfl rfl sz22 rfl rfl rfl rfl ?_
 intro w5 hS Qn
 replace Q3 := Qn
 clear Qn
 replace Q1 := hS.other _ _ ne_k1_k3 Q1
 replace Q2 := hS.other _ _ ne_k2_k3 Q2
 replace M := hS.mo _ N_k3 M
 clear hS
 refine w_nil (xn_blk (xn_then (w_reg ?_)))
 refine wl_b .add 3 (.tmp 5) (.const (.int .i64 (1))) (.int .i64 (1)) (.int .i64 (1)) (.int .i64 (2)) (by kernel_rfl) ?_
 refine wl_m (.tmp 14) (.int .i64 (2)) ?_
 refine w_nil ?_
 refine xn_rounds ?_
 refine w_seq (w_reg ?_)
 refine wl_b .lss 3 (.tmp 5) (.const (.int .i64 (4))) (.int .i64 (2)) (.int .i64 (4)) (.bool true) (by kernel_rfl) ?_
 refine w_nil (xn_then (w_seq (w_condT rfl (w_skip (xn_then (w_seq (w_block (w_seq (w_reg ?_)))))))))
 refine wl_m (.tmp 5) (.int .i64 (2)) ?_
 refine wl_m (.tmp 7) (.int .i64 (2)) ?_
 refine w_nil (xn_then (w_reg ?_))
 refine wl_m (.tmp 4) (.int .i64 (2)) ?_
 refine wl_m (.tmp 4) (.int .i64 (2)) ?_
 refine wl_f 40 1 (.tmp 1) (pt k1 0) (pt k1 1) ?_
 refine wl_bin (fun x y => Instr.indexAt 38 x y) (.tmp 10) (.tmp 9) (pt k1 1) (.int .i64 (2)) (pt k1 3) (fun _ => rfl) rfl rfl (by kernel_rfl) rfl ?_
 refine wl_l 34 (.tmp 11) (pt k1 3) (.int .u64 (l2 (n))) (run_one Q1 34 3 rfl Try.underlying34 rfl) ?_
 refine wl_bin (fun x y => Instr.indexAt 36 x y) (.tmp 3) (.tmp 8) (pt k3 0) (.int .i64 (2)) (pt k3 2) (fun _ => rfl) rfl rfl (by kernel_rfl) rfl ?_
 refine wl_st1 34 (.tmp 13) (.tmp 12) k3 2 (.int .u64 (l2 (n))) _ [.int .u64 (l0 (n)), .int .u64 (l1 (n)), .int .u64 (l2 (n)), .int .u64 0, .int .u64 0] Q3 rfl rfl rfl rfl rfl sz22 rfl rfl rfl rfl ?_
 intro w6 hS Qn
 replace Q3 := Qn
 clear Qn
 replace Q1 := hS.other _ _ ne_k1_k3 Q1
 replace Q2 := hS.other _ _ ne_k2_k3 Q2
 replace M := hS.mo _ N_k3 M
 clear hS
 refine w_nil (xn_blk (xn_then (w_reg ?_)))
 refine wl_b .add 3 (.tmp 5) (.const (.int .i64 (1))) (.int .i64 (2)) (.int .i64 (1)) (.int .i64 (3)) (by kernel_rfl) ?_
 refine wl_m (.tmp 14) (.int .i64 (3)) ?_
 refine w_nil ?_
 refine xn_rounds ?_
 refine w_seq (w_reg ?_)
 refine wl_b .lss 3 (.tmp 5) (.const (.int .i64 (4))) (.int .i64 (3)) (.int .i64 (4)) (.bool true) (by kernel_rfl) ?_
 refine w_nil (xn_then (w_seq (w_condT rfl (w_skip (xn_then (w_seq (w_block (w_seq (w_reg ?_)))))))))
 refine wl_m (.tmp 5) (.int .i64 (3)) ?_
 refine wl_m (.tmp 7) (.int .i64 (3)) ?_
 refine w_nil (xn_then (w_reg ?_))
 refine wl_m (.tmp 4) (.int .i64 (3)) ?_
 refine wl_m (.tmp 4) (.int .i64 (3)) ?_
 refine wl_f 40 1 (.tmp 1) (pt k1 0) (pt k1 1) ?_
 refine wl_bin (fun x y => Instr.indexAt 38 x y) (.tmp 10) (.tmp 9) (pt k1 1) (.int .i64 (3)) (pt k1 4) (fun _ => rfl) rfl rfl (by kernel_rfl) rfl ?_
 refine wl_l 34 (.tmp 11) (pt k1 4) (.int .u64 (l3 (n))) (run_one Q1 34 4 rfl Try.underlying34 rfl) ?_
 refine wl_bin (fun x y => Instr.indexAt 36 x y) (.tmp 3) (.tmp 8) (pt k3 0) (.int .i64 (3)) (pt k3 3) (fun _ => rfl) rfl rfl (by kernel_rfl) rfl ?_
 refine wl_st1 34 (.tmp 13) (.tmp 12) k3 3 (.int .u64 (l3 (n))) _ [.int .u64 (l0 (n)), .int .u64 (l1 (n)), .int .u64 (l2 (n)), .int .u64 (l3 (n)), .int .u64 0] Q3 rfl rfl rfl rfl rfl sz22 rfl rfl rfl rfl ?_
 intro w7 hS Qn
 replace Q3 := Qn
 clear Qn
 replace Q1 := hS.other _ _ ne_k1_k3 Q1
 replace Q2 := hS.other _ _ ne_k2_k3 Q2
 replace M := hS.mo _ N_k3 M
 clear hS
 refine w_nil (xn_blk (xn_then (w_reg ?_)))
 refine wl_b .add 3 (.tmp 5) (.const (.int .i64 (1))) (.int .i64 (3)) (.int .i64 (1)) (.int .i64 (4)) (by kernel_rfl) ?_
 refine wl_m (.tmp 14) (.int .i64 (4)) ?_
 refine w_nil ?_
 refine xn_rounds ?_
 refine w_seq (w_reg ?_)
 refine wl_b .lss 3 (.tmp 5) (.const (.int .i64 (4))) (.int .i64 (4)) (.int .i64 (4)) (.bool false) (by kernel_rfl) ?_
 refine w_nil (xn_then (w_seq (w_condF rfl (w_exit (xx_then (xx_then (xx_blk (xn_then (w_seq (w_seq (w_reg ?_)))))))))))
 refine wl_f 40 0 (.tmp 1) (pt k1 0) (pt k1 0) ?_
 refine wl_l 4 (.tmp 15) (pt k1 0) (.bool true) (run_one Q1 4 0 rfl Try.underlying4 rfl) ?_
 refine w_nil (xn_then (w_condT rfl (w_seq (w_reg ?_))))
 refine wl_l 36 (.tmp 3) (pt k3 0) (.agg #[.int .u64 (l0 (n)), .int .u64 (l1 (n)), .int .u64 (l2 (n)), .int .u64 (l3 (n)), .int .u64 0]) (run_row Q3 36 0 5 _ rfl Try.underlying36 rfl sz31) ?_
 refine wl_call 89 [(.tmp 17)] _ [.agg #[.int .u64 (l0 (n)), .int .u64 (l1 (n)), .int .u64 (l2 (n)), .int .u64 (l3 (n)), .int .u64 0]] (.agg #[.int .u64 (l0 (-n)), .int .u64 (l1 (-n)), .int .u64 (l2 (-n)), .int .u64 (l3 (-n)), .int .u64 (l4 (-n))]) rfl rfl (fun _ _ => by kernel_rfl) (hm _) rfl ?_
 intro w8 hq
 replace Q1 := Q1.mo hq
 replace Q2 := Q2.mo hq
 replace Q3 := Q3.mo hq
 replace M := M.trans hq
 clear hq
 refine wl_st 36 (.tmp 2) (.tmp 18) k2 0 #[.int .u64 (l0 (-n)), .int .u64 (l1 (-n)), .int .u64 (l2 (-n)), .int .u64 (l3 (-n)), .int .u64 (l4 (-n))] _ [.int .u64 (l0 (-n)), .int .u64 (l1 (-n)), .int .u64 (l2 (-n)), .int .u64 (l3 (-n)), .int .u64 (l4 (-n))] Q2 rfl rfl rfl rfl rfl sz31 rfl rfl rfl ?_
 intro w9 hS Qn
 replace Q2 := Qn
 clear Qn
 replace Q1 := hS.other _ _ ne_k1_k2 Q1
 replace Q3 := hS.other _ _ ne_k2_k3.symm Q3
 replace M := hS.mo _ N_k2 M
 clear hS
 refine w_nil (xn_then (w_ret (xr_then ?_)))
 exact w_ret1 _ (.agg #[.int .u64 (l0 (-n)), .int .u64 (l1 (-n)), .int .u64 (l2 (-n)), .int .u64 (l3 (-n)), .int .u64 (l4 (-n))]) rfl ⟨k2, rfl, (run_row Q2 36 0 5 _ rfl Try.underlying36 rfl sz31)⟩ ⟨rfl, M⟩
theorem widen_f (n s : Int) (hn0 : 0 ≤ n) (hn : n < MM) : Calls Try.prog 78 #[dc false n s] w fun e w' => e = .returned (wv (n)) ∧ Mo w w' := by
 have h4 := l4_small hn0 hn
 have hv : (Value.agg #[.int .u64 (l0 n), .int .u64 (l1 n), .int .u64 (l2 n), .int .u64 (l3 n), .int .u64 0]) = wv n := by unfold wv; rw [h4]
 refine w_enter 20 Try.func78 Try.ntmps78 rfl rfl ?_
 have M : Mo w w := Mo.refl _
 refine w_seq (w_reg ?_)
 refine wl_box 40 (.tmp 0) _ (#[.bool false, .int .u64 (l0 (n)), .int .u64 (l1 (n)), .int .u64 (l2 (n)), .int .u64 (l3 (n)), .int .i64 (s)]) rfl rfl (fun _ => by kernel_rfl) rfl ?_
 intro k1 w1 hk hz hq Q1
 have N_k1 : w.heap.size ≤ k1 := by have := M.size; omega
 replace M := M.trans hq
 clear hk hz hq
 refine wl_alloc 36 #[.int .u64 0, .int .u64 0, .int .u64 0, .int .u64 0, .int .u64 0] rfl (fun _ => by kernel_rfl) rfl ?_
 intro k2 w2 hk hz hq Q2
 have ne_k1_k2 : k1 ≠ k2 := by have := Q1.lt; omega
 have N_k2 : w.heap.size ≤ k2 := by have := M.size; omega
 replace Q1 := Q1.mo hq
 replace M := M.trans hq
 clear hk hz hq
 refine w_nil (xn_then (w_seq (w_reg ?_)))
 refine wl_alloc 36 #[.int .u64 0, .int .u64 0, .int .u64 0, .int .u64 0, .int .u64 0] rfl (fun _ => by kernel_rfl) rfl ?_
 intro k3 w3 hk hz hq Q3
 have ne_k1_k3 : k1 ≠ k3 := by have := Q1.lt; omega
 have ne_k2_k3 : k2 ≠ k3 := by have := Q2.lt; omega
 have N_k3 : w.heap.size ≤ k3 := by have := M.size; omega
 replace Q1 := Q1.mo hq
 replace Q2 := Q2.mo hq
 replace M := M.trans hq
 clear hk hz hq
 refine w_nil (xn_then (w_seq (w_seq (w_reg ?_))))
 refine wl_m (.const (.int .i64 (0))) (.int .i64 (0)) ?_
 refine w_nil (xn_then (w_block ?_))
 refine w_rounds 4 ?_
 refine w_seq (w_reg ?_)
 refine wl_b .lss 3 (.tmp 5) (.const (.int .i64 (4))) (.int .i64 (0)) (.int .i64 (4)) (.bool true) (by kernel_rfl) ?_
 refine w_nil (xn_then (w_seq (w_condT rfl (w_skip (xn_then (w_seq (w_block (w_seq (w_reg ?_)))))))))
 refine wl_m (.tmp 5) (.int .i64 (0)) ?_
 refine wl_m (.tmp 7) (.int .i64 (0)) ?_
 refine w_nil (xn_then (w_reg ?_))
 refine wl_m (.tmp 4) (.int .i64 (0)) ?_
 refine wl_m (.tmp 4) (.int .i64 (0)) ?_
 refine wl_f 40 1 (.tmp 1) (pt k1 0) (pt k1 1) ?_
 refine wl_bin (fun x y => Instr.indexAt 38 x y) (.tmp 10) (.tmp 9) (pt k1 1) (.int .i64 (0)) (pt k1 1) (fun _ => rfl) rfl rfl (by kernel_rfl) rfl ?_
 refine wl_l 34 (.tmp 11) (pt k1 1) (.int .u64 (l0 (n))) (run_one Q1 34 1 rfl Try.underlying34 rfl) ?_
 refine wl_bin (fun x y => Instr.indexAt 36 x y) (.tmp 3) (.tmp 8) (pt k3 0) (.int .i64 (0)) (pt k3 0) (fun _ => rfl) rfl rfl (by kernel_rfl) rfl ?_
 refine wl_st1 34 (.tmp 13) (.tmp 12) k3 0 (.int .u64 (l0 (n))) _ [.int .u64 (l0 (n)), .int .u64 0, .int .u64 0, .int .u64 0, .int .u64 0] Q3 rfl rfl rfl rfl rfl sz22 rfl rfl rfl rfl ?_
 intro w4 hS Qn
 replace Q3 := Qn
 clear Qn
 replace Q1 := hS.other _ _ ne_k1_k3 Q1
 replace Q2 := hS.other _ _ ne_k2_k3 Q2
 replace M := hS.mo _ N_k3 M
 clear hS
 refine w_nil (xn_blk (xn_then (w_reg ?_)))
 refine wl_b .add 3 (.tmp 5) (.const (.int .i64 (1))) (.int .i64 (0)) (.int .i64 (1)) (.int .i64 (1)) (by kernel_rfl) ?_
 refine wl_m (.tmp 14) (.int .i64 (1)) ?_
 refine w_nil ?_
 refine xn_rounds ?_
 refine w_seq (w_reg ?_)
 refine wl_b .lss 3 (.tmp 5) (.const (.int .i64 (4))) (.int .i64 (1)) (.int .i64 (4)) (.bool true) (by kernel_rfl) ?_
 refine w_nil (xn_then (w_seq (w_condT rfl (w_skip (xn_then (w_seq (w_block (w_seq (w_reg ?_)))))))))
 refine wl_m (.tmp 5) (.int .i64 (1)) ?_
 refine wl_m (.tmp 7) (.int .i64 (1)) ?_
 refine w_nil (xn_then (w_reg ?_))
 refine wl_m (.tmp 4) (.int .i64 (1)) ?_
 refine wl_m (.tmp 4) (.int .i64 (1)) ?_
 refine wl_f 40 1 (.tmp 1) (pt k1 0) (pt k1 1) ?_
 refine wl_bin (fun x y => Instr.indexAt 38 x y) (.tmp 10) (.tmp 9) (pt k1 1) (.int .i64 (1)) (pt k1 2) (fun _ => rfl) rfl rfl (by kernel_rfl) rfl ?_
 refine wl_l 34 (.tmp 11) (pt k1 2) (.int .u64 (l1 (n))) (run_one Q1 34 2 rfl Try.underlying34 rfl) ?_
 refine wl_bin (fun x y => Instr.indexAt 36 x y) (.tmp 3) (.tmp 8) (pt k3 0) (.int .i64 (1)) (pt k3 1) (fun _ => rfl) rfl rfl (by kernel_rfl) rfl ?_
 refine wl_st1 34 (.tmp 13) (.tmp 12) k3 1 (.int .u64 (l1 (n))) _ [.int .u64 (l0 (n)), .int .u64 (l1 (n)), .int .u64 0, .int .u64 0, .int .u64 0] Q3 rfl rfl rfl rfl rfl sz22 rfl rfl rfl rfl ?_
 intro w5 hS Qn
 replace Q3 := Qn
 clear Qn
 replace Q1 := hS.other _ _ ne_k1_k3 Q1
 replace Q2 := hS.other _ _ ne_k2_k3 Q2
 replace M := hS.mo _ N_k3 M
 clear hS
 refine w_nil (xn_blk (xn_then (w_reg ?_)))
 refine wl_b .add 3 (.tmp 5) (.const (.int .i64 (1))) (.int .i64 (1)) (.int .i64 (1)) (.int .i64 (2)) (by kernel_rfl) ?_
 refine wl_m (.tmp 14) (.int .i64 (2)) ?_
 refine w_nil ?_
 refine xn_rounds ?_
 refine w_seq (w_reg ?_)
 refine wl_b .lss 3 (.tmp 5) (.const (.int .i64 (4))) (.int .i64 (2)) (.int .i64 (4)) (.bool true) (by kernel_rfl) ?_
 refine w_nil (xn_then (w_seq (w_condT rfl (w_skip (xn_then (w_seq (w_block (w_seq (w_reg ?_)))))))))
 refine wl_m (.tmp 5) (.int .i64 (2)) ?_
 refine wl_m (.tmp 7) (.int .i64 (2)) ?_
 refine w_nil (xn_then (w_reg ?_))
 refine wl_m (.tmp 4) (.int .i64 (2)) ?_
 refine wl_m (.tmp 4) (.int .i64 (2)) ?_
 refine wl_f 40 1 (.tmp 1) (pt k1 0) (pt k1 1) ?_
 refine wl_bin (fun x y => Instr.indexAt 38 x y) (.tmp 10) (.tmp 9) (pt k1 1) (.int .i64 (2)) (pt k1 3) (fun _ => rfl) rfl rfl (by kernel_rfl) rfl ?_
 refine wl_l 34 (.tmp 11) (pt k1 3) (.int .u64 (l2 (n))) (run_one Q1 34 3 rfl Try.underlying34 rfl) ?_
 refine wl_bin (fun x y => Instr.indexAt 36 x y) (.tmp 3) (.tmp 8) (pt k3 0) (.int .i64 (2)) (pt k3 2) (fun _ => rfl) rfl rfl (by kernel_rfl) rfl ?_
 refine wl_st1 34 (.tmp 13) (.tmp 12) k3 2 (.int .u64 (l2 (n))) _ [.int .u64 (l0 (n)), .int .u64 (l1 (n)), .int .u64 (l2 (n)), .int .u64 0, .int .u64 0] Q3 rfl rfl rfl rfl rfl sz22 rfl rfl rfl rfl ?_
 intro w6 hS Qn
 replace Q3 := Qn
 clear Qn
 replace Q1 := hS.other _ _ ne_k1_k3 Q1
 replace Q2 := hS.other _ _ ne_k2_k3 Q2
 replace M := hS.mo _ N_k3 M
 clear hS
 refine w_nil (xn_blk (xn_then (w_reg ?_)))
 refine wl_b .add 3 (.tmp 5) (.const (.int .i64 (1))) (.int .i64 (2)) (.int .i64 (1)) (.int .i64 (3)) (by kernel_rfl) ?_
 refine wl_m (.tmp 14) (.int .i64 (3)) ?_
 refine w_nil ?_
 refine xn_rounds ?_
 refine w_seq (w_reg ?_)
 refine wl_b .lss 3 (.tmp 5) (.const (.int .i64 (4))) (.int .i64 (3)) (.int .i64 (4)) (.bool true) (by kernel_rfl) ?_
 refine w_nil (xn_then (w_seq (w_condT rfl (w_skip (xn_then (w_seq (w_block (w_seq (w_reg ?_)))))))))
 refine wl_m (.tmp 5) (.int .i64 (3)) ?_
 refine wl_m (.tmp 7) (.int .i64 (3)) ?_
 refine w_nil (xn_then (w_reg ?_))
 refine wl_m (.tmp 4) (.int .i64 (3)) ?_
 refine wl_m (.tmp 4) (.int .i64 (3)) ?_
 refine wl_f 40 1 (.tmp 1) (pt k1 0) (pt k1 1) ?_
 refine wl_bin (fun x y => Instr.indexAt 38 x y) (.tmp 10) (.tmp 9) (pt k1 1) (.int .i64 (3)) (pt k1 4) (fun _ => rfl) rfl rfl (by kernel_rfl) rfl ?_
 refine wl_l 34 (.tmp 11) (pt k1 4) (.int .u64 (l3 (n))) (run_one Q1 34 4 rfl Try.underlying34 rfl) ?_
 refine wl_bin (fun x y => Instr.indexAt 36 x y) (.tmp 3) (.tmp 8) (pt k3 0) (.int .i64 (3)) (pt k3 3) (fun _ => rfl) rfl rfl (by kernel_rfl) rfl ?_
 refine wl_st1 34 (.tmp 13) (.tmp 12) k3 3 (.int .u64 (l3 (n))) _ [.int .u64 (l0 (n)), .int .u64 (l1 (n)), .int .u64 (l2 (n)), .int .u64 (l3 (n)), .int .u64 0] Q3 rfl rfl rfl rfl rfl sz22 rfl rfl rfl rfl ?_
 intro w7 hS Qn
 replace Q3 := Qn
 clear Qn
 replace Q1 := hS.other _ _ ne_k1_k3 Q1
 replace Q2 := hS.other _ _ ne_k2_k3 Q2
 replace M := hS.mo _ N_k3 M
 clear hS
 refine w_nil (xn_blk (xn_then (w_reg ?_)))
 refine wl_b .add 3 (.tmp 5) (.const (.int .i64 (1))) (.int .i64 (3)) (.int .i64 (1)) (.int .i64 (4)) (by kernel_rfl) ?_
 refine wl_m (.tmp 14) (.int .i64 (4)) ?_
 refine w_nil ?_
 refine xn_rounds ?_
 refine w_seq (w_reg ?_)
 refine wl_b .lss 3 (.tmp 5) (.const (.int .i64 (4))) (.int .i64 (4)) (.int .i64 (4)) (.bool false) (by kernel_rfl) ?_
 refine w_nil (xn_then (w_seq (w_condF rfl (w_exit (xx_then (xx_then (xx_blk (xn_then (w_seq (w_seq (w_reg ?_)))))))))))
 refine wl_f 40 0 (.tmp 1) (pt k1 0) (pt k1 0) ?_
 refine wl_l 4 (.tmp 15) (pt k1 0) (.bool false) (run_one Q1 4 0 rfl Try.underlying4 rfl) ?_
 refine w_nil (xn_then (w_condF rfl (w_skip (xn_then (w_seq (w_reg ?_))))))
 refine wl_l 36 (.tmp 3) (pt k3 0) (.agg #[.int .u64 (l0 (n)), .int .u64 (l1 (n)), .int .u64 (l2 (n)), .int .u64 (l3 (n)), .int .u64 0]) (run_row Q3 36 0 5 _ rfl Try.underlying36 rfl sz31) ?_
 refine wl_st 36 (.tmp 2) (.tmp 19) k2 0 #[.int .u64 (l0 (n)), .int .u64 (l1 (n)), .int .u64 (l2 (n)), .int .u64 (l3 (n)), .int .u64 0] _ [.int .u64 (l0 (n)), .int .u64 (l1 (n)), .int .u64 (l2 (n)), .int .u64 (l3 (n)), .int .u64 0] Q2 rfl rfl rfl rfl rfl sz31 rfl rfl rfl ?_
 intro w8 hS Qn
 replace Q2 := Qn
 clear Qn
 replace Q1 := hS.other _ _ ne_k1_k2 Q1
 replace Q3 := hS.other _ _ ne_k2_k3.symm Q3
 replace M := hS.mo _ N_k2 M
 clear hS
 refine w_nil (xn_then (w_ret ?_))
 exact w_ret1 _ (.agg #[.int .u64 (l0 (n)), .int .u64 (l1 (n)), .int .u64 (l2 (n)), .int .u64 (l3 (n)), .int .u64 0]) rfl ⟨k2, rfl, (run_row Q2 36 0 5 _ rfl Try.underlying36 rfl sz31)⟩ ⟨by rw [← hv], M⟩
end
end Go.Proofs.Ythfemlhmnjfjiaa

/-
 Narrow, the program's and the document's.
-/
namespace Go.Proofs.Ythfemlhmnjfjiaa
open Go.RowKit
theorem sz26 : (Try.prog.info? 40).map (·.size) = some 6 := by kernel_rfl
end Go.Proofs.Ythfemlhmnjfjiaa

/-
 decimal.shorten by whole numbers.
-/
namespace Go.Proofs.Ythfemlhmnjfjiaa
open Go.RowKit
def sv (b : Bool) (V : Int) : Int := if b then -V else V
theorem ab_sv {b : Bool} {V : Int} (h : 0 ≤ V) : ab (sv b V) = V := by unfold ab sv; cases b <;> simp <;> omega
theorem neg_sv {b : Bool} {V : Int} (h : 0 ≤ V) : decide (sv b V < 0) = (b && !decide (V = 0)) := by
 unfold sv
 cases b
 ·simp; omega
 ·rw [Bool.eq_iff_iff]; simp; omega
end Go.Proofs.Ythfemlhmnjfjiaa

/-
 decimal.OfInt and cmp.Compare: the walks.
-/
namespace Go.Proofs.Ythfemlhmnjfjiaa
open Go.RowKit
theorem nan_n (a : Int) (w : World) : Calls Try.prog 91 #[.int .i64 a] w fun e w' => e = .returned (.bool false) ∧ Mo w w' := by
 go_enter Try.func91, Try.ntmps91
 go_wp2
 go_ret
 exact ⟨by simp, Mo.refl _⟩
set_option maxHeartbeats 4000000 in
theorem compare_n (a b : Int) (w : World) : Calls Try.prog 84 #[.int .i64 a, .int .i64 b] w fun e w' => e = .returned (.int .i64 (cm a b)) ∧ Mo w w' := by
 have hc : (a < b ∧ cm a b = -1) ∨ (¬ a < b ∧ b < a ∧ cm a b = 1) ∨ (¬ a < b ∧ ¬ b < a ∧ cm a b = 0) := by
  unfold cm
  by_cases h : a < b
  ·exact Or.inl ⟨h, if_pos h⟩
  ·by_cases h2 : b < a
   ·exact Or.inr (Or.inl ⟨h, h2, by rw [if_neg h, if_pos h2]⟩)
   ·exact Or.inr (Or.inr ⟨h, h2, by rw [if_neg h, if_neg h2]⟩)
 rcases hc with ⟨h1, h2⟩ | ⟨h1, h2, h3⟩ | ⟨h1, h2, h3⟩
 ·have d1 : decide (a < b) = true := decide_eq_true h1
  rw [h2]
  clear h1 h2
  go_enter Try.func84, Try.ntmps84
  go_wp2_with fail
  refine (nan_n a _).mono ?_
  rintro e w1 ⟨rfl, hm1⟩
  have mz : Mo w w1 := Mo.trans (by repeat (first | with_reducible exact Mo.refl _ | with_reducible apply Mo.drew | with_reducible apply Mo.alloc)) hm1
  have M := mz
  clear hm1 mz
  go_wp2_with fail
  refine (nan_n b _).mono ?_
  rintro e w2 ⟨rfl, hm2⟩
  have mz : Mo w1 w2 := Mo.trans (by repeat (first | with_reducible exact Mo.refl _ | with_reducible apply Mo.drew | with_reducible apply Mo.alloc)) hm2
  have M := M.trans mz
  clear hm2 mz
  go_wp2
  go_ret
  exact ⟨rfl, M⟩
 ·have d1 : decide (a < b) = false := decide_eq_false h1
  have d2 : decide (a > b) = true := decide_eq_true h2
  rw [h3]
  clear h1 h2 h3
  go_enter Try.func84, Try.ntmps84
  go_wp2_with fail
  refine (nan_n a _).mono ?_
  rintro e w1 ⟨rfl, hm1⟩
  have mz : Mo w w1 := Mo.trans (by repeat (first | with_reducible exact Mo.refl _ | with_reducible apply Mo.drew | with_reducible apply Mo.alloc)) hm1
  have M := mz
  clear hm1 mz
  go_wp2_with fail
  refine (nan_n b _).mono ?_
  rintro e w2 ⟨rfl, hm2⟩
  have mz : Mo w1 w2 := Mo.trans (by repeat (first | with_reducible exact Mo.refl _ | with_reducible apply Mo.drew | with_reducible apply Mo.alloc)) hm2
  have M := M.trans mz
  clear hm2 mz
  go_wp2
  go_ret
  exact ⟨rfl, M⟩
 ·have d1 : decide (a < b) = false := decide_eq_false h1
  have d2 : decide (a > b) = false := decide_eq_false h2
  rw [h3]
  clear h1 h2 h3
  go_enter Try.func84, Try.ntmps84
  go_wp2_with fail
  refine (nan_n a _).mono ?_
  rintro e w1 ⟨rfl, hm1⟩
  have mz : Mo w w1 := Mo.trans (by repeat (first | with_reducible exact Mo.refl _ | with_reducible apply Mo.drew | with_reducible apply Mo.alloc)) hm1
  have M := mz
  clear hm1 mz
  go_wp2_with fail
  refine (nan_n b _).mono ?_
  rintro e w2 ⟨rfl, hm2⟩
  have mz : Mo w1 w2 := Mo.trans (by repeat (first | with_reducible exact Mo.refl _ | with_reducible apply Mo.drew | with_reducible apply Mo.alloc)) hm2
  have M := M.trans mz
  clear hm2 mz
  go_wp2
  go_ret
  exact ⟨rfl, M⟩
end Go.Proofs.Ythfemlhmnjfjiaa

/-
 decimal.Cmp: the walk.
-/
namespace Go.Proofs.Ythfemlhmnjfjiaa
open Go.RowKit
theorem lifted_bd {n : Int} {i : Nat} (h0 : 0 ≤ n) (h : n < MM) (hi : i ≤ 77) : 0 ≤ n * 10 ^ i ∧ n * 10 ^ i < MM * MM := by
 obtain ⟨t0, t1⟩ := ten_bd i hi
 refine ⟨Int.mul_nonneg h0 (by omega), ?_⟩
 have a : n * 10 ^ i ≤ n * MM := Int.mul_le_mul_of_nonneg_left (by omega) h0
 have b : n * MM < MM * MM := Int.mul_lt_mul_of_pos_right h (by decide)
 omega
set_option maxHeartbeats 4000000 in
theorem dcmp_no (b c : Bool) (n m s t : Int) (w : World) (hn0 : 0 ≤ n) (hn : n < MM) (hm0 : 0 ≤ m) (hm : m < MM) (h : ¬ (ck b n s = 0 ∧ ck c m t = 0)) :
  Calls Try.prog 75 #[dc b n s, dc c m t] w fun e w' => e = .returned (.int .i64 0) ∧ Mo w w' := by
 go_enter Try.func75, Try.ntmps75
 go_wp2_with fail
 refine (both_no b n s c m t _ hn0 hn hm0 hm h).mono ?_
 rintro e w1 ⟨rfl, hm1⟩
 have mz : Mo w w1 := Mo.trans (by repeat (first | with_reducible exact Mo.refl _ | with_reducible apply Mo.drew | with_reducible apply Mo.alloc)) hm1
 have M := mz
 have Qa : AtD w1 (w.heap.size) b n s := AtD.mo ⟨by simp [go_sem], fun o => by simp [go_sem], by simp <;> omega⟩ hm1
 have Qb : AtD w1 (w.heap.size + 1) c m t := AtD.mo ⟨by simp [go_sem], fun o => by simp [go_sem], by simp <;> omega⟩ hm1
 clear hm1 mz
 have Oa := Qa
 obtain ⟨⟨ca0, ca1, ca2, ca3, ca4, ca5⟩, fa, sa⟩ := Oa
 have fa := fun o => fa o
 have sxa : w.heap.size < w1.heap.size + 1 := by omega
 have sya : w.heap.size < w1.heap.size + 1 + 1 := by omega
 have Ob := Qb
 obtain ⟨⟨cb0, cb1, cb2, cb3, cb4, cb5⟩, fb, sb⟩ := Ob
 have fb := fun o => fb o
 have sxb : w.heap.size + 1 < w1.heap.size + 1 := by omega
 have syb : w.heap.size + 1 < w1.heap.size + 1 + 1 := by omega
 go_wp2
 go_ret
 exact ⟨rfl, M⟩
set_option maxHeartbeats 4000000 in
theorem dcmp_ne (b c : Bool) (n m s t : Int) (w : World) (hn0 : 0 ≤ n) (hn : n < MM) (hm0 : 0 ≤ m) (hm : m < MM) (h1 : ck b n s = 0) (h2 : ck c m t = 0) (ho : cm (sg b n) (sg c m) ≠ 0) :
  Calls Try.prog 75 #[dc b n s, dc c m t] w fun e w' => e = .returned (.int .i64 (cm (sg b n) (sg c m))) ∧ Mo w w' := by
 have hO : (cm (sg b n) (sg c m) == 0) = false := by simp [ho]
 have hO2 : (cm (sg b n) (sg c m) != 0) = true := by simp [ho]
 clear ho
 go_enter Try.func75, Try.ntmps75
 go_wp2_with fail
 refine (both_ok b n s c m t _ hn0 hn hm0 hm h1 h2).mono ?_
 rintro e w1 ⟨rfl, hm1⟩
 have mz : Mo w w1 := Mo.trans (by repeat (first | with_reducible exact Mo.refl _ | with_reducible apply Mo.drew | with_reducible apply Mo.alloc)) hm1
 have M := mz
 have Qa : AtD w1 (w.heap.size) b n s := AtD.mo ⟨by simp [go_sem], fun o => by simp [go_sem], by simp <;> omega⟩ hm1
 have Qb : AtD w1 (w.heap.size + 1) c m t := AtD.mo ⟨by simp [go_sem], fun o => by simp [go_sem], by simp <;> omega⟩ hm1
 clear hm1 mz
 have Oa := Qa
 obtain ⟨⟨ca0, ca1, ca2, ca3, ca4, ca5⟩, fa, sa⟩ := Oa
 have fa := fun o => fa o
 have sxa : w.heap.size < w1.heap.size + 1 := by omega
 have sya : w.heap.size < w1.heap.size + 1 + 1 := by omega
 have Ob := Qb
 obtain ⟨⟨cb0, cb1, cb2, cb3, cb4, cb5⟩, fb, sb⟩ := Ob
 have fb := fun o => fb o
 have sxb : w.heap.size + 1 < w1.heap.size + 1 := by omega
 have syb : w.heap.size + 1 < w1.heap.size + 1 + 1 := by omega
 go_upto_region 3 with fail
 go_cut [5] from 12 to 16 (fun s5 wx => s5 = .int .i64 (cm (sg b n) (sg c m)) ∧ Mo w wx ∧ AtD wx w.heap.size b n s ∧ AtD wx (w.heap.size + 1) c m t)
 case first =>
  go_region_held3 (fun w' => w'.cell? ⟨w.heap.size, 0, none⟩ = some (.bool b) ∧ w'.cell? ⟨w.heap.size, 1, none⟩ = some (.int .u64 (l0 n)) ∧ w'.cell? ⟨w.heap.size, 2, none⟩ = some (.int .u64 (l1 n)) ∧ w'.cell? ⟨w.heap.size, 3, none⟩ = some (.int .u64 (l2 n)) ∧ w'.cell? ⟨w.heap.size, 4, none⟩ = some (.int .u64 (l3 n)) ∧ w'.cell? ⟨w.heap.size, 5, none⟩ = some (.int .i64 s) ∧ w'.cell? ⟨w.heap.size + 1, 0, none⟩ = some (.bool c) ∧ w'.cell? ⟨w.heap.size + 1, 1, none⟩ = some (.int .u64 (l0 m)) ∧ w'.cell? ⟨w.heap.size + 1, 2, none⟩ = some (.int .u64 (l1 m)) ∧ w'.cell? ⟨w.heap.size + 1, 3, none⟩ = some (.int .u64 (l2 m)) ∧ w'.cell? ⟨w.heap.size + 1, 4, none⟩ = some (.int .u64 (l3 m)) ∧ w'.cell? ⟨w.heap.size + 1, 5, none⟩ = some (.int .i64 t)) (simp [go_sem, *])
   (first | (go_at_call 84; refine (compare_n _ _ _).mono ?_; rintro e w5 ⟨rfl, hm5⟩; have m5 : Mo w4 w5 := Mo.trans (by repeat (first | with_reducible exact Mo.refl _ | with_reducible apply Mo.drew | with_reducible apply Mo.alloc)) hm5; have m6 := (m3.trans m4).trans m5; obtain ⟨⟨i0, i1, i2, i3, i4, i5⟩, _, is⟩ := Qa.mo m6; obtain ⟨⟨j0, j1, j2, j3, j4, j5⟩, _, js⟩ := Qb.mo m6) | (go_at_call 85; have m33 := m3; refine (sign_n c m t _ hm0 hm).mono ?_; rintro e w4 ⟨rfl, hm4⟩; have m4 : Mo w3 w4 := Mo.trans (by repeat (first | with_reducible exact Mo.refl _ | with_reducible apply Mo.drew | with_reducible apply Mo.alloc)) hm4; obtain ⟨⟨g0, g1, g2, g3, g4, g5⟩, _, gs⟩ := Qa.mo (m3.trans m4); obtain ⟨⟨k0, k1, k2, k3, k4, k5⟩, _, ks⟩ := Qb.mo (m3.trans m4)) | (go_at_call 85; refine (sign_n b n s _ hn0 hn).mono ?_; rintro e w3 ⟨rfl, hm3⟩; have m3 : Mo w1 w3 := Mo.trans (by repeat (first | with_reducible exact Mo.refl _ | with_reducible apply Mo.drew | with_reducible apply Mo.alloc)) hm3; obtain ⟨⟨e0, e1, e2, e3, e4, e5⟩, _, es⟩ := Qa.mo m3; obtain ⟨⟨f0, f1, f2, f3, f4, f5⟩, _, fs⟩ := Qb.mo m3))
  all_goals
   go_wp2
   go_meet
   case rel => exact ⟨rfl, M.trans m6, Qa.mo m6, Qb.mo m6⟩
 case rest =>
  clear ca0 ca1 ca2 ca3 ca4 ca5 fa sa sxa sya cb0 cb1 cb2 cb3 cb4 cb5 fb sb sxb syb Qa Qb M
  obtain ⟨rfl, M, Qa, Qb⟩ := hcut
  have Oa := Qa
  obtain ⟨⟨ca0, ca1, ca2, ca3, ca4, ca5⟩, fa, sa⟩ := Oa
  have fa := fun o => fa o
  have sxa : w.heap.size < wc.heap.size + 1 := by omega
  have sya : w.heap.size < wc.heap.size + 1 + 1 := by omega
  have Ob := Qb
  obtain ⟨⟨cb0, cb1, cb2, cb3, cb4, cb5⟩, fb, sb⟩ := Ob
  have fb := fun o => fb o
  have sxb : w.heap.size + 1 < wc.heap.size + 1 := by omega
  have syb : w.heap.size + 1 < wc.heap.size + 1 + 1 := by omega
  go_wp2
  go_ret
  exact ⟨rfl, M⟩
set_option maxHeartbeats 4000000 in
theorem dcmp_pos (b c : Bool) (n m s t : Int) (w : World) (hn0 : 0 ≤ n) (hn : n < MM) (hm0 : 0 ≤ m) (hm : m < MM) (h1 : ck b n s = 0) (h2 : ck c m t = 0) (S : Int) (i j : Nat) (hS : max s t = S) (hi : S - s = (i : Int)) (hj : S - t = (j : Int)) (hi7 : i ≤ 18) (hj7 : j ≤ 18) (hb : b = false) (ho : cm (sg b n) (sg c m) = 0) :
  Calls Try.prog 75 #[dc b n s, dc c m t] w fun e w' => e = .returned (.int .i64 (cm (n * 10 ^ i) (m * 10 ^ j))) ∧ Mo w w' := by
 subst hb
 subst hS
 have bX := lifted_bd hn0 hn (show i ≤ 77 by omega)
 have bY := lifted_bd hm0 hm (show j ≤ 77 by omega)
 have HI : Hid _ := hi
 have HJ : Hid _ := hj
 clear hi hj
 have hO : (cm (sg false n) (sg c m) == 0) = true := by simp [ho]
 have hO2 : (cm (sg false n) (sg c m) != 0) = false := by simp [ho]
 clear ho
 go_enter Try.func75, Try.ntmps75
 go_wp2_with fail
 refine (both_ok false n s c m t _ hn0 hn hm0 hm h1 h2).mono ?_
 rintro e w1 ⟨rfl, hm1⟩
 have mz : Mo w w1 := Mo.trans (by repeat (first | with_reducible exact Mo.refl _ | with_reducible apply Mo.drew | with_reducible apply Mo.alloc)) hm1
 have M := mz
 have Qa : AtD w1 (w.heap.size) false n s := AtD.mo ⟨by simp [go_sem], fun o => by simp [go_sem], by simp <;> omega⟩ hm1
 have Qb : AtD w1 (w.heap.size + 1) c m t := AtD.mo ⟨by simp [go_sem], fun o => by simp [go_sem], by simp <;> omega⟩ hm1
 clear hm1 mz
 have Oa := Qa
 obtain ⟨⟨ca0, ca1, ca2, ca3, ca4, ca5⟩, fa, sa⟩ := Oa
 have fa := fun o => fa o
 have sxa : w.heap.size < w1.heap.size + 1 := by omega
 have sya : w.heap.size < w1.heap.size + 1 + 1 := by omega
 have Ob := Qb
 obtain ⟨⟨cb0, cb1, cb2, cb3, cb4, cb5⟩, fb, sb⟩ := Ob
 have fb := fun o => fb o
 have sxb : w.heap.size + 1 < w1.heap.size + 1 := by omega
 have syb : w.heap.size + 1 < w1.heap.size + 1 + 1 := by omega
 go_upto_region 3 with fail
 go_cut [5] from 12 to 16 (fun s5 wx => s5 = .int .i64 (cm (sg false n) (sg c m)) ∧ Mo w wx ∧ AtD wx w.heap.size false n s ∧ AtD wx (w.heap.size + 1) c m t)
 case first =>
  go_region_held3 (fun w' => w'.cell? ⟨w.heap.size, 0, none⟩ = some (.bool false) ∧ w'.cell? ⟨w.heap.size, 1, none⟩ = some (.int .u64 (l0 n)) ∧ w'.cell? ⟨w.heap.size, 2, none⟩ = some (.int .u64 (l1 n)) ∧ w'.cell? ⟨w.heap.size, 3, none⟩ = some (.int .u64 (l2 n)) ∧ w'.cell? ⟨w.heap.size, 4, none⟩ = some (.int .u64 (l3 n)) ∧ w'.cell? ⟨w.heap.size, 5, none⟩ = some (.int .i64 s) ∧ w'.cell? ⟨w.heap.size + 1, 0, none⟩ = some (.bool c) ∧ w'.cell? ⟨w.heap.size + 1, 1, none⟩ = some (.int .u64 (l0 m)) ∧ w'.cell? ⟨w.heap.size + 1, 2, none⟩ = some (.int .u64 (l1 m)) ∧ w'.cell? ⟨w.heap.size + 1, 3, none⟩ = some (.int .u64 (l2 m)) ∧ w'.cell? ⟨w.heap.size + 1, 4, none⟩ = some (.int .u64 (l3 m)) ∧ w'.cell? ⟨w.heap.size + 1, 5, none⟩ = some (.int .i64 t)) (simp [go_sem, *])
   (first | (go_at_call 84; refine (compare_n _ _ _).mono ?_; rintro e w5 ⟨rfl, hm5⟩; have m5 : Mo w4 w5 := Mo.trans (by repeat (first | with_reducible exact Mo.refl _ | with_reducible apply Mo.drew | with_reducible apply Mo.alloc)) hm5; have m6 := (m3.trans m4).trans m5; obtain ⟨⟨i0, i1, i2, i3, i4, i5⟩, _, is⟩ := Qa.mo m6; obtain ⟨⟨j0, j1, j2, j3, j4, j5⟩, _, js⟩ := Qb.mo m6) | (go_at_call 85; have m33 := m3; refine (sign_n c m t _ hm0 hm).mono ?_; rintro e w4 ⟨rfl, hm4⟩; have m4 : Mo w3 w4 := Mo.trans (by repeat (first | with_reducible exact Mo.refl _ | with_reducible apply Mo.drew | with_reducible apply Mo.alloc)) hm4; obtain ⟨⟨g0, g1, g2, g3, g4, g5⟩, _, gs⟩ := Qa.mo (m3.trans m4); obtain ⟨⟨k0, k1, k2, k3, k4, k5⟩, _, ks⟩ := Qb.mo (m3.trans m4)) | (go_at_call 85; refine (sign_n false n s _ hn0 hn).mono ?_; rintro e w3 ⟨rfl, hm3⟩; have m3 : Mo w1 w3 := Mo.trans (by repeat (first | with_reducible exact Mo.refl _ | with_reducible apply Mo.drew | with_reducible apply Mo.alloc)) hm3; obtain ⟨⟨e0, e1, e2, e3, e4, e5⟩, _, es⟩ := Qa.mo m3; obtain ⟨⟨f0, f1, f2, f3, f4, f5⟩, _, fs⟩ := Qb.mo m3))
  all_goals
   go_wp2
   go_meet
   case rel => exact ⟨rfl, M.trans m6, Qa.mo m6, Qb.mo m6⟩
 case rest =>
  clear ca0 ca1 ca2 ca3 ca4 ca5 fa sa sxa sya cb0 cb1 cb2 cb3 cb4 cb5 fb sb sxb syb Qa Qb M
  obtain ⟨rfl, M, Qa, Qb⟩ := hcut
  have Oa := Qa
  obtain ⟨⟨ca0, ca1, ca2, ca3, ca4, ca5⟩, fa, sa⟩ := Oa
  have fa := fun o => fa o
  have sxa : w.heap.size < wc.heap.size + 1 := by omega
  have sya : w.heap.size < wc.heap.size + 1 + 1 := by omega
  have Ob := Qb
  obtain ⟨⟨cb0, cb1, cb2, cb3, cb4, cb5⟩, fb, sb⟩ := Ob
  have fb := fun o => fb o
  have sxb : w.heap.size + 1 < wc.heap.size + 1 := by omega
  have syb : w.heap.size + 1 < wc.heap.size + 1 + 1 := by omega
  go_upto_region 7 with fail
  go_cut [7] from 25 to 31 (fun s7 wx => s7 = .int .i64 (cm (n * 10 ^ i) (m * 10 ^ j)) ∧ Mo w wx ∧ AtD wx w.heap.size false n s)
  case first =>
   go_region_held3 (fun w' => w'.cell? ⟨w.heap.size, 0, none⟩ = some (.bool false) ∧ w'.cell? ⟨w.heap.size, 1, none⟩ = some (.int .u64 (l0 n)) ∧ w'.cell? ⟨w.heap.size, 2, none⟩ = some (.int .u64 (l1 n)) ∧ w'.cell? ⟨w.heap.size, 3, none⟩ = some (.int .u64 (l2 n)) ∧ w'.cell? ⟨w.heap.size, 4, none⟩ = some (.int .u64 (l3 n)) ∧ w'.cell? ⟨w.heap.size, 5, none⟩ = some (.int .i64 s) ∧ w'.cell? ⟨w.heap.size + 1, 0, none⟩ = some (.bool c) ∧ w'.cell? ⟨w.heap.size + 1, 1, none⟩ = some (.int .u64 (l0 m)) ∧ w'.cell? ⟨w.heap.size + 1, 2, none⟩ = some (.int .u64 (l1 m)) ∧ w'.cell? ⟨w.heap.size + 1, 3, none⟩ = some (.int .u64 (l2 m)) ∧ w'.cell? ⟨w.heap.size + 1, 4, none⟩ = some (.int .u64 (l3 m)) ∧ w'.cell? ⟨w.heap.size + 1, 5, none⟩ = some (.int .i64 t)) (simp [go_sem, *])
    (first | (go_at_call 86; refine (cmpDouble_x _ _ _ bX.1 bX.2 bY.1 bY.2).mono ?_; rintro e w9 ⟨rfl, hm9⟩; have m9 : Mo w8 w9 := Mo.trans (by repeat (first | with_reducible exact Mo.refl _ | with_reducible apply Mo.drew | with_reducible apply Mo.alloc)) hm9; have m10 := (m7.trans m8).trans m9; obtain ⟨⟨i0, i1, i2, i3, i4, i5⟩, _, is⟩ := Qa.mo m10; obtain ⟨⟨j0, j1, j2, j3, j4, j5⟩, _, js⟩ := Qb.mo m10) | (go_at_call 87; have m77 := m7; refine (lift_x _ _ _ _ j _ hm0 hm HJ.out (by omega)).mono ?_; rintro e w8 ⟨rfl, hm8⟩; have m8 : Mo w7 w8 := Mo.trans (by repeat (first | with_reducible exact Mo.refl _ | with_reducible apply Mo.drew | with_reducible apply Mo.alloc)) hm8; obtain ⟨⟨g0, g1, g2, g3, g4, g5⟩, _, gs⟩ := Qa.mo (m7.trans m8); obtain ⟨⟨k0, k1, k2, k3, k4, k5⟩, _, ks⟩ := Qb.mo (m7.trans m8)) | (go_at_call 87; refine (lift_x _ _ _ _ i _ hn0 hn HI.out (by omega)).mono ?_; rintro e w7 ⟨rfl, hm7⟩; have m7 : Mo wc w7 := Mo.trans (by repeat (first | with_reducible exact Mo.refl _ | with_reducible apply Mo.drew | with_reducible apply Mo.alloc)) hm7; obtain ⟨⟨e0, e1, e2, e3, e4, e5⟩, _, es⟩ := Qa.mo m7; obtain ⟨⟨f0, f1, f2, f3, f4, f5⟩, _, fs⟩ := Qb.mo m7))
   all_goals
    go_wp2
    go_meet
    case rel => exact ⟨rfl, M.trans m10, Qa.mo m10⟩
  case rest =>
   clear ca0 ca1 ca2 ca3 ca4 ca5 fa sa sxa sya cb0 cb1 cb2 cb3 cb4 cb5 fb sb sxb syb Qa Qb M
   obtain ⟨rfl, M, Qa⟩ := hcut
   have Oa := Qa
   obtain ⟨⟨ca0, ca1, ca2, ca3, ca4, ca5⟩, fa, sa⟩ := Oa
   have fa := fun o => fa o
   have sxa : w.heap.size < wc.heap.size + 1 := by omega
   have sya : w.heap.size < wc.heap.size + 1 + 1 := by omega
   go_wp2
   go_ret
   exact ⟨rfl, M⟩
set_option maxHeartbeats 4000000 in
theorem dcmp_neg (b c : Bool) (n m s t : Int) (w : World) (hn0 : 0 ≤ n) (hn : n < MM) (hm0 : 0 ≤ m) (hm : m < MM) (h1 : ck b n s = 0) (h2 : ck c m t = 0) (S : Int) (i j : Nat) (hS : max s t = S) (hi : S - s = (i : Int)) (hj : S - t = (j : Int)) (hi7 : i ≤ 18) (hj7 : j ≤ 18) (hb : b = true) (ho : cm (sg b n) (sg c m) = 0) :
  Calls Try.prog 75 #[dc b n s, dc c m t] w fun e w' => e = .returned (.int .i64 (-(cm (n * 10 ^ i) (m * 10 ^ j)))) ∧ Mo w w' := by
 subst hb
 subst hS
 have bX := lifted_bd hn0 hn (show i ≤ 77 by omega)
 have bY := lifted_bd hm0 hm (show j ≤ 77 by omega)
 have HI : Hid _ := hi
 have HJ : Hid _ := hj
 clear hi hj
 have wn : IntKind.i64.wrap (-(cm (n * 10 ^ i) (m * 10 ^ j))) = -(cm (n * 10 ^ i) (m * 10 ^ j)) := by unfold cm; split <;> (try split) <;> decide
 have hO : (cm (sg true n) (sg c m) == 0) = true := by simp [ho]
 have hO2 : (cm (sg true n) (sg c m) != 0) = false := by simp [ho]
 clear ho
 go_enter Try.func75, Try.ntmps75
 go_wp2_with fail
 refine (both_ok true n s c m t _ hn0 hn hm0 hm h1 h2).mono ?_
 rintro e w1 ⟨rfl, hm1⟩
 have mz : Mo w w1 := Mo.trans (by repeat (first | with_reducible exact Mo.refl _ | with_reducible apply Mo.drew | with_reducible apply Mo.alloc)) hm1
 have M := mz
 have Qa : AtD w1 (w.heap.size) true n s := AtD.mo ⟨by simp [go_sem], fun o => by simp [go_sem], by simp <;> omega⟩ hm1
 have Qb : AtD w1 (w.heap.size + 1) c m t := AtD.mo ⟨by simp [go_sem], fun o => by simp [go_sem], by simp <;> omega⟩ hm1
 clear hm1 mz
 have Oa := Qa
 obtain ⟨⟨ca0, ca1, ca2, ca3, ca4, ca5⟩, fa, sa⟩ := Oa
 have fa := fun o => fa o
 have sxa : w.heap.size < w1.heap.size + 1 := by omega
 have sya : w.heap.size < w1.heap.size + 1 + 1 := by omega
 have Ob := Qb
 obtain ⟨⟨cb0, cb1, cb2, cb3, cb4, cb5⟩, fb, sb⟩ := Ob
 have fb := fun o => fb o
 have sxb : w.heap.size + 1 < w1.heap.size + 1 := by omega
 have syb : w.heap.size + 1 < w1.heap.size + 1 + 1 := by omega
 go_upto_region 3 with fail
 go_cut [5] from 12 to 16 (fun s5 wx => s5 = .int .i64 (cm (sg true n) (sg c m)) ∧ Mo w wx ∧ AtD wx w.heap.size true n s ∧ AtD wx (w.heap.size + 1) c m t)
 case first =>
  go_region_held3 (fun w' => w'.cell? ⟨w.heap.size, 0, none⟩ = some (.bool true) ∧ w'.cell? ⟨w.heap.size, 1, none⟩ = some (.int .u64 (l0 n)) ∧ w'.cell? ⟨w.heap.size, 2, none⟩ = some (.int .u64 (l1 n)) ∧ w'.cell? ⟨w.heap.size, 3, none⟩ = some (.int .u64 (l2 n)) ∧ w'.cell? ⟨w.heap.size, 4, none⟩ = some (.int .u64 (l3 n)) ∧ w'.cell? ⟨w.heap.size, 5, none⟩ = some (.int .i64 s) ∧ w'.cell? ⟨w.heap.size + 1, 0, none⟩ = some (.bool c) ∧ w'.cell? ⟨w.heap.size + 1, 1, none⟩ = some (.int .u64 (l0 m)) ∧ w'.cell? ⟨w.heap.size + 1, 2, none⟩ = some (.int .u64 (l1 m)) ∧ w'.cell? ⟨w.heap.size + 1, 3, none⟩ = some (.int .u64 (l2 m)) ∧ w'.cell? ⟨w.heap.size + 1, 4, none⟩ = some (.int .u64 (l3 m)) ∧ w'.cell? ⟨w.heap.size + 1, 5, none⟩ = some (.int .i64 t)) (simp [go_sem, *])
   (first | (go_at_call 84; refine (compare_n _ _ _).mono ?_; rintro e w5 ⟨rfl, hm5⟩; have m5 : Mo w4 w5 := Mo.trans (by repeat (first | with_reducible exact Mo.refl _ | with_reducible apply Mo.drew | with_reducible apply Mo.alloc)) hm5; have m6 := (m3.trans m4).trans m5; obtain ⟨⟨i0, i1, i2, i3, i4, i5⟩, _, is⟩ := Qa.mo m6; obtain ⟨⟨j0, j1, j2, j3, j4, j5⟩, _, js⟩ := Qb.mo m6) | (go_at_call 85; have m33 := m3; refine (sign_n c m t _ hm0 hm).mono ?_; rintro e w4 ⟨rfl, hm4⟩; have m4 : Mo w3 w4 := Mo.trans (by repeat (first | with_reducible exact Mo.refl _ | with_reducible apply Mo.drew | with_reducible apply Mo.alloc)) hm4; obtain ⟨⟨g0, g1, g2, g3, g4, g5⟩, _, gs⟩ := Qa.mo (m3.trans m4); obtain ⟨⟨k0, k1, k2, k3, k4, k5⟩, _, ks⟩ := Qb.mo (m3.trans m4)) | (go_at_call 85; refine (sign_n true n s _ hn0 hn).mono ?_; rintro e w3 ⟨rfl, hm3⟩; have m3 : Mo w1 w3 := Mo.trans (by repeat (first | with_reducible exact Mo.refl _ | with_reducible apply Mo.drew | with_reducible apply Mo.alloc)) hm3; obtain ⟨⟨e0, e1, e2, e3, e4, e5⟩, _, es⟩ := Qa.mo m3; obtain ⟨⟨f0, f1, f2, f3, f4, f5⟩, _, fs⟩ := Qb.mo m3))
  all_goals
   go_wp2
   go_meet
   case rel => exact ⟨rfl, M.trans m6, Qa.mo m6, Qb.mo m6⟩
 case rest =>
  clear ca0 ca1 ca2 ca3 ca4 ca5 fa sa sxa sya cb0 cb1 cb2 cb3 cb4 cb5 fb sb sxb syb Qa Qb M
  obtain ⟨rfl, M, Qa, Qb⟩ := hcut
  have Oa := Qa
  obtain ⟨⟨ca0, ca1, ca2, ca3, ca4, ca5⟩, fa, sa⟩ := Oa
  have fa := fun o => fa o
  have sxa : w.heap.size < wc.heap.size + 1 := by omega
  have sya : w.heap.size < wc.heap.size + 1 + 1 := by omega
  have Ob := Qb
  obtain ⟨⟨cb0, cb1, cb2, cb3, cb4, cb5⟩, fb, sb⟩ := Ob
  have fb := fun o => fb o
  have sxb : w.heap.size + 1 < wc.heap.size + 1 := by omega
  have syb : w.heap.size + 1 < wc.heap.size + 1 + 1 := by omega
  go_upto_region 7 with fail
  go_cut [7] from 25 to 31 (fun s7 wx => s7 = .int .i64 (cm (n * 10 ^ i) (m * 10 ^ j)) ∧ Mo w wx ∧ AtD wx w.heap.size true n s)
  case first =>
   go_region_held3 (fun w' => w'.cell? ⟨w.heap.size, 0, none⟩ = some (.bool true) ∧ w'.cell? ⟨w.heap.size, 1, none⟩ = some (.int .u64 (l0 n)) ∧ w'.cell? ⟨w.heap.size, 2, none⟩ = some (.int .u64 (l1 n)) ∧ w'.cell? ⟨w.heap.size, 3, none⟩ = some (.int .u64 (l2 n)) ∧ w'.cell? ⟨w.heap.size, 4, none⟩ = some (.int .u64 (l3 n)) ∧ w'.cell? ⟨w.heap.size, 5, none⟩ = some (.int .i64 s) ∧ w'.cell? ⟨w.heap.size + 1, 0, none⟩ = some (.bool c) ∧ w'.cell? ⟨w.heap.size + 1, 1, none⟩ = some (.int .u64 (l0 m)) ∧ w'.cell? ⟨w.heap.size + 1, 2, none⟩ = some (.int .u64 (l1 m)) ∧ w'.cell? ⟨w.heap.size + 1, 3, none⟩ = some (.int .u64 (l2 m)) ∧ w'.cell? ⟨w.heap.size + 1, 4, none⟩ = some (.int .u64 (l3 m)) ∧ w'.cell? ⟨w.heap.size + 1, 5, none⟩ = some (.int .i64 t)) (simp [go_sem, *])
    (first | (go_at_call 86; refine (cmpDouble_x _ _ _ bX.1 bX.2 bY.1 bY.2).mono ?_; rintro e w9 ⟨rfl, hm9⟩; have m9 : Mo w8 w9 := Mo.trans (by repeat (first | with_reducible exact Mo.refl _ | with_reducible apply Mo.drew | with_reducible apply Mo.alloc)) hm9; have m10 := (m7.trans m8).trans m9; obtain ⟨⟨i0, i1, i2, i3, i4, i5⟩, _, is⟩ := Qa.mo m10; obtain ⟨⟨j0, j1, j2, j3, j4, j5⟩, _, js⟩ := Qb.mo m10) | (go_at_call 87; have m77 := m7; refine (lift_x _ _ _ _ j _ hm0 hm HJ.out (by omega)).mono ?_; rintro e w8 ⟨rfl, hm8⟩; have m8 : Mo w7 w8 := Mo.trans (by repeat (first | with_reducible exact Mo.refl _ | with_reducible apply Mo.drew | with_reducible apply Mo.alloc)) hm8; obtain ⟨⟨g0, g1, g2, g3, g4, g5⟩, _, gs⟩ := Qa.mo (m7.trans m8); obtain ⟨⟨k0, k1, k2, k3, k4, k5⟩, _, ks⟩ := Qb.mo (m7.trans m8)) | (go_at_call 87; refine (lift_x _ _ _ _ i _ hn0 hn HI.out (by omega)).mono ?_; rintro e w7 ⟨rfl, hm7⟩; have m7 : Mo wc w7 := Mo.trans (by repeat (first | with_reducible exact Mo.refl _ | with_reducible apply Mo.drew | with_reducible apply Mo.alloc)) hm7; obtain ⟨⟨e0, e1, e2, e3, e4, e5⟩, _, es⟩ := Qa.mo m7; obtain ⟨⟨f0, f1, f2, f3, f4, f5⟩, _, fs⟩ := Qb.mo m7))
   all_goals
    go_wp2
    go_meet
    case rel => exact ⟨rfl, M.trans m10, Qa.mo m10⟩
  case rest =>
   clear ca0 ca1 ca2 ca3 ca4 ca5 fa sa sxa sya cb0 cb1 cb2 cb3 cb4 cb5 fb sb sxb syb Qa Qb M
   obtain ⟨rfl, M, Qa⟩ := hcut
   have Oa := Qa
   obtain ⟨⟨ca0, ca1, ca2, ca3, ca4, ca5⟩, fa, sa⟩ := Oa
   have fa := fun o => fa o
   have sxa : w.heap.size < wc.heap.size + 1 := by omega
   have sya : w.heap.size < wc.heap.size + 1 + 1 := by omega
   go_wp2
   go_ret
   exact ⟨rfl, M⟩
end Go.Proofs.Ythfemlhmnjfjiaa

/-
 decimal's functions by whole numbers: what they answer at numbers that may be.
-/
namespace Go.Proofs.Ythfemlhmnjfjiaa
open Go.RowKit
def pw (k : Int) : Int := 10 ^ k.toNat
theorem pw_nat (k : Nat) : pw (k : Int) = 10 ^ k := rfl
theorem ab_c (v : Int) : (v < 0 ∧ ab v = -v) ∨ (0 ≤ v ∧ ab v = v) := by
 unfold ab; by_cases h : v < 0
 ·exact Or.inl ⟨h, if_pos h⟩
 ·exact Or.inr ⟨by omega, if_neg h⟩
theorem ab_mul {u x : Int} (hx : 0 < x) : ab u * x = ab (u * x) := by
 unfold ab
 by_cases h : u < 0
 ·rw [if_pos h, if_pos (Int.mul_neg_of_neg_of_pos h hx), Int.neg_mul]
 ·rw [if_neg h, if_neg (by have := Int.mul_nonneg (Int.not_lt.1 h) (Int.le_of_lt hx); omega)]
theorem neg_mul_iff {u x : Int} (hx : 0 < x) : decide (u * x < 0) = decide (u < 0) := by
 by_cases h : u < 0
 ·rw [decide_eq_true h, decide_eq_true (Int.mul_neg_of_neg_of_pos h hx)]
 ·have := Int.mul_nonneg (Int.not_lt.1 h) (Int.le_of_lt hx)
  rw [decide_eq_false h, decide_eq_false (by omega)]
end Go.Proofs.Ythfemlhmnjfjiaa

/-
 decimal by whole numbers: what else its functions answer.
-/
namespace Go.Proofs.Ythfemlhmnjfjiaa
open Go.RowKit
theorem cmp_z (u s v t : Int) (w : World) (hu : ab u < MM) (hv : ab v < MM) (hs : sc s = true) (ht : sc t = true) :
  Calls Try.prog 75 #[dz u s, dz v t] w fun e w' => e = .returned (.int .i64 (cm (u * pw (max s t - s)) (v * pw (max s t - t)))) ∧ Mo w w' := by
 obtain ⟨s0, s1⟩ := sc_iff.1 hs
 obtain ⟨t0, t1⟩ := sc_iff.1 ht
 obtain ⟨S, hS⟩ : ∃ S, max s t = S := ⟨_, rfl⟩
 obtain ⟨i, hi⟩ : ∃ i : Nat, S - s = (i : Int) := ⟨(S - s).toNat, by omega⟩
 obtain ⟨j, hj⟩ : ∃ j : Nat, S - t = (j : Int) := ⟨(S - t).toNat, by omega⟩
 rw [hS, hi, hj, pw_nat, pw_nat]
 have pi : (0 : Int) < 10 ^ i := Int.pow_pos (by decide)
 have pj : (0 : Int) < 10 ^ j := Int.pow_pos (by decide)
 have eX := ab_mul (u := u) pi
 have eY := ab_mul (u := v) pj
 have nX := neg_mul_iff (u := u) pi
 have nY := neg_mul_iff (u := v) pj
 have zX : u * 10 ^ i = 0 ↔ ab u = 0 := by
  have c := ab_c u
  constructor
  ·intro h; rcases Int.mul_eq_zero.1 h with h | h <;> omega
  ·intro h; rw [show u = 0 by omega]; simp
 have zY : v * 10 ^ j = 0 ↔ ab v = 0 := by
  have c := ab_c v
  constructor
  ·intro h; rcases Int.mul_eq_zero.1 h with h | h <;> omega
  ·intro h; rw [show v = 0 by omega]; simp
 have sX : sg (decide (u < 0)) (ab u) = if u * 10 ^ i = 0 then 0 else if u * 10 ^ i < 0 then -1 else 1 := by
  unfold sg; rw [← nX]; by_cases h : u * 10 ^ i = 0 <;> simp [h, zX.1] <;> simp [zX.symm, h]
 have sY : sg (decide (v < 0)) (ab v) = if v * 10 ^ j = 0 then 0 else if v * 10 ^ j < 0 then -1 else 1 := by
  unfold sg; rw [← nY]; by_cases h : v * 10 ^ j = 0 <;> simp [h, zY.1] <;> simp [zY.symm, h]
 generalize hA : u * 10 ^ i = A at *
 generalize hB : v * 10 ^ j = B at *
 have cA := ab_c A
 have cB := ab_c B
 by_cases ho : cm (sg (decide (u < 0)) (ab u)) (sg (decide (v < 0)) (ab v)) = 0
 ·have hsg : sg (decide (u < 0)) (ab u) = sg (decide (v < 0)) (ab v) := by unfold cm at ho; split at ho <;> (try split at ho) <;> omega
  rw [sX, sY] at hsg
  have hneg : (A < 0 ↔ B < 0) := by split at hsg <;> split at hsg <;> (try split at hsg) <;> (try split at hsg) <;> omega
  by_cases hb : u < 0
  ·have hA0 : A < 0 := by have := nX; simp [hb] at this; exact this
   have := dcmp_neg (decide (u < 0)) (decide (v < 0)) (ab u) (ab v) s t w (ab_nn u) hu (ab_nn v) hv (ck_dz hs) (ck_dz ht) S i j hS hi hj (by omega) (by omega) (decide_eq_true hb) ho
   rw [eX, eY] at this
   have e : -(cm (ab A) (ab B)) = cm A B := by unfold cm; split <;> (try split) <;> (try split) <;> (try split) <;> omega
   rw [e] at this
   exact this
  ·have hA0 : ¬ A < 0 := by have := nX; simp [hb] at this; omega
   have := dcmp_pos (decide (u < 0)) (decide (v < 0)) (ab u) (ab v) s t w (ab_nn u) hu (ab_nn v) hv (ck_dz hs) (ck_dz ht) S i j hS hi hj (by omega) (by omega) (decide_eq_false hb) ho
   rw [eX, eY] at this
   have e : cm (ab A) (ab B) = cm A B := by rw [show ab A = A by omega, show ab B = B by omega]
   rw [e] at this
   exact this
 ·have := dcmp_ne (decide (u < 0)) (decide (v < 0)) (ab u) (ab v) s t w (ab_nn u) hu (ab_nn v) hv (ck_dz hs) (ck_dz ht) ho
  have e : cm (sg (decide (u < 0)) (ab u)) (sg (decide (v < 0)) (ab v)) = cm A B := by
   rw [sX, sY] at ho ⊢
   unfold cm at *
   by_cases a0 : A = 0 <;> by_cases b0 : B = 0 <;> by_cases a1 : A < 0 <;> by_cases b1 : B < 0 <;> simp [a0, b0, a1, b1] at ho ⊢ <;> (try split) <;> (try split) <;> omega
  rw [e] at this
  exact this
end Go.Proofs.Ythfemlhmnjfjiaa

/-
 exciselaw02.begun answers true.
-/
namespace Go.Proofs.Ythfemlhmnjfjiaa
open Go.RowKit
theorem guard_run {op : BinOp} {ty : TypeId} {a b : Array Value} {w : World} (x y : Operand) (hg : Try.prog.eqGuardType Try.prog.depth ty = false) : (eqGuard op ty x y (.agg a) (.agg b)).run Try.prog w = .ok () w := by
 unfold eqGuard
 cases op <;> simp [hg]
end Go.Proofs.Ythfemlhmnjfjiaa

/-
 Trim, the program's and the document's.
-/
namespace Go.Proofs.Ythfemlhmnjfjiaa
open Go.RowKit
theorem Ds.two {sp : List Sp} {f : Nat → Value} {w : World} (i j : Nat) (h : ∀ q, spNew (spAt sp q) = true → q = i ∨ q = j) (h1 : ∀ k, f i = pt k 0 → k < w.heap.size) (h2 : ∀ k, f j = pt k 0 → k < w.heap.size) (h3 : ∀ k, f i = pt k 0 → f j ≠ pt k 0) : Ds sp f w := by
 refine ⟨fun q hq k hk => ?_, fun q r hq hr hne k hk hk2 => ?_⟩
 ·rcases h q hq with rfl | rfl
  ·exact h1 k hk
  ·exact h2 k hk
 ·rcases h q hq with rfl | rfl <;> rcases h r hr with rfl | rfl
  ·exact hne rfl
  ·exact h3 k hk hk2
  ·exact h3 k hk2 hk
  ·exact hne rfl
end Go.Proofs.Ythfemlhmnjfjiaa

/-
 Summaries and values as they lie there.
-/
namespace Go.Proofs.Ythfemlhmnjfjiaa
open Go.RowKit
structure D3 where
 b : Bool
 n : Int
 s : Int
def D3.ok (d : D3) : Prop := 0 ≤ d.n ∧ d.n < MM
structure Sm where
 r : Int
 f : Int
 k : Int
 d : Int
 e : Int
 tt : Int
 so : Bool
 mn : D3
 mx : D3
abbrev sm (r f k d e tt : Int) (so : Bool) (mb : Bool) (mn ms : Int) (xb : Bool) (xn xs : Int) : Value := .agg #[.int .i64 r, .int .i64 f, .int .i64 k, .int .i64 d, .int .i64 e, .int .u64 (l0 tt), .int .u64 (l1 tt), .int .u64 (l2 tt), .int .u64 (l3 tt), .int .u64 (l4 tt), .bool so, .bool mb, .int .u64 (l0 mn), .int .u64 (l1 mn), .int .u64 (l2 mn), .int .u64 (l3 mn), .int .i64 ms, .bool xb, .int .u64 (l0 xn), .int .u64 (l1 xn), .int .u64 (l2 xn), .int .u64 (l3 xn), .int .i64 xs]
abbrev smv (S : Sm) : Value := sm S.r S.f S.k S.d S.e S.tt S.so S.mn.b S.mn.n S.mn.s S.mx.b S.mx.n S.mx.s
def d0 : D3 := ⟨false, 0, 0⟩
def sm0 : Sm := ⟨0, 0, 0, 0, 0, 0, false, d0, d0⟩
abbrev vl10 (K : Int) (b : Bool) (n s : Int) (fl : Bool) (tx : ByteArray) (er : Int) : Value := .agg #[.int .i64 K, .bool b, .int .u64 (l0 n), .int .u64 (l1 n), .int .u64 (l2 n), .int .u64 (l3 n), .int .i64 s, .bool fl, .string tx, .int .i64 er]
theorem eqI {a b : Int} {r : Bool} (h : decide (a = b) = r) (x y : Operand) (w : World) : (do eqGuard .eql 3 x y (.int .i64 a) (.int .i64 b); binOp .eql 3 (.int .i64 a) (.int .i64 b)).run Try.prog w = .ok (.bool r) w := by
 have e : (do eqGuard .eql 3 x y (.int .i64 a) (.int .i64 b); binOp .eql 3 (.int .i64 a) (.int .i64 b)).run Try.prog w = .ok (.bool (a == b)) w := by kernel_rfl
 rw [e, ← h]; rfl
theorem eqE {a b : Int} {r : Bool} (h : decide (a = b) = r) (x y : Operand) (w : World) : (do eqGuard .eql 25 x y (.int .i64 a) (.int .i64 b); binOp .eql 25 (.int .i64 a) (.int .i64 b)).run Try.prog w = .ok (.bool r) w := by
 have e : (do eqGuard .eql 25 x y (.int .i64 a) (.int .i64 b); binOp .eql 25 (.int .i64 a) (.int .i64 b)).run Try.prog w = .ok (.bool (a == b)) w := by kernel_rfl
 rw [e, ← h]; rfl
theorem geI {a b : Int} {r : Bool} (h : decide (b ≤ a) = r) (x y : Operand) (w : World) : (do eqGuard .geq 3 x y (.int .i64 a) (.int .i64 b); binOp .geq 3 (.int .i64 a) (.int .i64 b)).run Try.prog w = .ok (.bool r) w := by
 subst h; kernel_rfl
def w64 (x : Int) : Int := IntKind.i64.wrap x
theorem addW (a b : Int) (x y : Operand) (w : World) : (do eqGuard .add 3 x y (.int .i64 a) (.int .i64 b); binOp .add 3 (.int .i64 a) (.int .i64 b)).run Try.prog w = .ok (.int .i64 (w64 (a + b))) w := by unfold w64; kernel_rfl
theorem minI (a b : Int) (ρ : Operand → Value) (x y : Operand) (hx : ρ x = .int .i64 a) (hy : ρ y = .int .i64 b) (dst : Option Tmp) (type : TypeId) (pos : String) (after : Array Edge) (guard : Option (Nat × Bool)) (w : World) : (execOp ρ { dst, op := .call { callee := .builtin .min, args := #[x, y], argTypes := #[3, 3] }, type, pos, after, guard }).run Try.prog w = .ok (.value (.int .i64 (min a b))) w := by
 simp [go_sem, hx, hy]
section
variable {w : World}
theorem widen_n (b : Bool) (n s : Int) (hn0 : 0 ≤ n) (hn : n < MM) : Calls Try.prog 78 #[dc b n s] w fun e w' => e = .returned (wv (sv b n)) ∧ Mo w w' := by
 cases b with
 | true => exact widen_t n s hn0 hn
 | false => exact widen_f n s hn0 hn
end
def cmpv (a b : D3) : Int := if ck a.b a.n a.s = 0 ∧ ck b.b b.n b.s = 0 then cm (sv a.b a.n * pw (max a.s b.s - a.s)) (sv b.b b.n * pw (max a.s b.s - b.s)) else 0
theorem dz_sv {b : Bool} {n s : Int} (hn : 0 ≤ n) (h : ck b n s = 0) : sc s = true ∧ dz (sv b n) s = dc b n s ∧ ab (sv b n) = n := by
 obtain ⟨h1, v, h2, h3⟩ := dz_of hn h
 have e := ab_sv (b := b) hn
 have e2 := neg_sv (b := b) hn
 refine ⟨h1, ?_, e⟩
 have hz : (b && !decide (n = 0)) = b := by
  unfold ck at h
  rw [h1] at h
  cases b with
  | false => rfl
  | true =>
   by_cases c : n = 0
   ·rw [decide_eq_true c] at h; simp at h
   ·rw [decide_eq_false c]; rfl
 unfold dz
 rw [e, e2, hz]
theorem cmp_d (a b : D3) (ha : a.ok) (hb : b.ok) (w : World) : Calls Try.prog 75 #[dc a.b a.n a.s, dc b.b b.n b.s] w fun e w' => e = .returned (.int .i64 (cmpv a b)) ∧ Mo w w' := by
 unfold cmpv
 by_cases h : ck a.b a.n a.s = 0 ∧ ck b.b b.n b.s = 0
 ·rw [if_pos h]
  obtain ⟨h1, h2, h3⟩ := dz_sv ha.1 h.1
  obtain ⟨g1, g2, g3⟩ := dz_sv hb.1 h.2
  rw [← h2, ← g2]
  exact cmp_z _ _ _ _ w (by rw [h3]; exact ha.2) (by rw [g3]; exact hb.2) h1 g1
 ·rw [if_neg h]; exact dcmp_no _ _ _ _ _ _ w ha.1 ha.2 hb.1 hb.2 h
end Go.Proofs.Ythfemlhmnjfjiaa


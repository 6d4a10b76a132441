/-
  A part of the proof.
-/
import Derived.Test.YtoiiekmkcpcbgaaB3
/-
  decimal.Cmp: the walk.
-/
namespace Go.Proofs.Ytoiiekmkcpcbgaa
open Go.RowKit
theorem lifted_bd {n : Int} {i : Nat} (h0 : 0 ≤ n) (h : n < MM) (hi : i ≤ 77) : 0 ≤ n * 10 ^ i ∧ n * 10 ^ i < MM * MM := by
  obtain ⟨t0, t1⟩ := ten_bd i hi
  refine ⟨Int.mul_nonneg h0 (by omega), ?_⟩
  have a : n * 10 ^ i ≤ n * MM := Int.mul_le_mul_of_nonneg_left (by omega) h0
  have b : n * MM < MM * MM := Int.mul_lt_mul_of_pos_right h (by decide)
  omega
set_option maxHeartbeats 4000000 in
theorem dcmp_no (b c : Bool) (n m s t : Int) (w : World) (hn0 : 0 ≤ n) (hn : n < MM) (hm0 : 0 ≤ m) (hm : m < MM) (h : ¬ (ck b n s = 0 ∧ ck c m t = 0)) :
    Calls Try.prog 51 #[dc b n s, dc c m t] w fun e w' => e = .returned (.int .i64 0) ∧ Mo w w' := by
  go_enter Try.func51, Try.ntmps51
  go_wp2_with fail
  refine (both_no b n s c m t _ hn0 hn hm0 hm h).mono ?_
  rintro e w1 ⟨rfl, hm1⟩
  have mz : Mo w w1 := Mo.trans (by repeat (first | with_reducible exact Mo.refl _ | with_reducible apply Mo.drew | with_reducible apply Mo.alloc)) hm1
  have M := mz
  have Qa : AtD w1 (w.heap.size) b n s := AtD.mo ⟨by simp [go_sem], fun o => by simp [go_sem], by simp <;> omega⟩ hm1
  have Qb : AtD w1 (w.heap.size + 1) c m t := AtD.mo ⟨by simp [go_sem], fun o => by simp [go_sem], by simp <;> omega⟩ hm1
  clear hm1 mz
  have Oa := Qa
  obtain ⟨⟨ca0, ca1, ca2, ca3, ca4, ca5⟩, fa, sa⟩ := Oa
  have fa := fun o => fa o
  have sxa : w.heap.size < w1.heap.size + 1 := by omega
  have sya : w.heap.size < w1.heap.size + 1 + 1 := by omega
  have Ob := Qb
  obtain ⟨⟨cb0, cb1, cb2, cb3, cb4, cb5⟩, fb, sb⟩ := Ob
  have fb := fun o => fb o
  have sxb : w.heap.size + 1 < w1.heap.size + 1 := by omega
  have syb : w.heap.size + 1 < w1.heap.size + 1 + 1 := by omega
  go_wp2
  go_ret
  exact ⟨rfl, M⟩
set_option maxHeartbeats 4000000 in
theorem dcmp_ne (b c : Bool) (n m s t : Int) (w : World) (hn0 : 0 ≤ n) (hn : n < MM) (hm0 : 0 ≤ m) (hm : m < MM) (h1 : ck b n s = 0) (h2 : ck c m t = 0) (ho : cm (sg b n) (sg c m) ≠ 0) :
    Calls Try.prog 51 #[dc b n s, dc c m t] w fun e w' => e = .returned (.int .i64 (cm (sg b n) (sg c m))) ∧ Mo w w' := by
  have hO : (cm (sg b n) (sg c m) == 0) = false := by simp [ho]
  have hO2 : (cm (sg b n) (sg c m) != 0) = true := by simp [ho]
  clear ho
  go_enter Try.func51, Try.ntmps51
  go_wp2_with fail
  refine (both_ok b n s c m t _ hn0 hn hm0 hm h1 h2).mono ?_
  rintro e w1 ⟨rfl, hm1⟩
  have mz : Mo w w1 := Mo.trans (by repeat (first | with_reducible exact Mo.refl _ | with_reducible apply Mo.drew | with_reducible apply Mo.alloc)) hm1
  have M := mz
  have Qa : AtD w1 (w.heap.size) b n s := AtD.mo ⟨by simp [go_sem], fun o => by simp [go_sem], by simp <;> omega⟩ hm1
  have Qb : AtD w1 (w.heap.size + 1) c m t := AtD.mo ⟨by simp [go_sem], fun o => by simp [go_sem], by simp <;> omega⟩ hm1
  clear hm1 mz
  have Oa := Qa
  obtain ⟨⟨ca0, ca1, ca2, ca3, ca4, ca5⟩, fa, sa⟩ := Oa
  have fa := fun o => fa o
  have sxa : w.heap.size < w1.heap.size + 1 := by omega
  have sya : w.heap.size < w1.heap.size + 1 + 1 := by omega
  have Ob := Qb
  obtain ⟨⟨cb0, cb1, cb2, cb3, cb4, cb5⟩, fb, sb⟩ := Ob
  have fb := fun o => fb o
  have sxb : w.heap.size + 1 < w1.heap.size + 1 := by omega
  have syb : w.heap.size + 1 < w1.heap.size + 1 + 1 := by omega
  go_upto_region 3 with fail
  go_cut [5] from 12 to 16 (fun s5 wx => s5 = .int .i64 (cm (sg b n) (sg c m)) ∧ Mo w wx ∧ AtD wx w.heap.size b n s ∧ AtD wx (w.heap.size + 1) c m t)
  case first =>
    go_region_held3 (fun w' => w'.cell? ⟨w.heap.size, 0, none⟩ = some (.bool b) ∧ w'.cell? ⟨w.heap.size, 1, none⟩ = some (.int .u64 (l0 n)) ∧ w'.cell? ⟨w.heap.size, 2, none⟩ = some (.int .u64 (l1 n)) ∧ w'.cell? ⟨w.heap.size, 3, none⟩ = some (.int .u64 (l2 n)) ∧ w'.cell? ⟨w.heap.size, 4, none⟩ = some (.int .u64 (l3 n)) ∧ w'.cell? ⟨w.heap.size, 5, none⟩ = some (.int .i64 s) ∧ w'.cell? ⟨w.heap.size + 1, 0, none⟩ = some (.bool c) ∧ w'.cell? ⟨w.heap.size + 1, 1, none⟩ = some (.int .u64 (l0 m)) ∧ w'.cell? ⟨w.heap.size + 1, 2, none⟩ = some (.int .u64 (l1 m)) ∧ w'.cell? ⟨w.heap.size + 1, 3, none⟩ = some (.int .u64 (l2 m)) ∧ w'.cell? ⟨w.heap.size + 1, 4, none⟩ = some (.int .u64 (l3 m)) ∧ w'.cell? ⟨w.heap.size + 1, 5, none⟩ = some (.int .i64 t)) (simp [go_sem, *])
      (first | (go_at_call 92; refine (compare_n _ _ _).mono ?_; rintro e w5 ⟨rfl, hm5⟩; have m5 : Mo w4 w5 := Mo.trans (by repeat (first | with_reducible exact Mo.refl _ | with_reducible apply Mo.drew | with_reducible apply Mo.alloc)) hm5; have m6 := (m3.trans m4).trans m5; obtain ⟨⟨i0, i1, i2, i3, i4, i5⟩, _, is⟩ := Qa.mo m6; obtain ⟨⟨j0, j1, j2, j3, j4, j5⟩, _, js⟩ := Qb.mo m6) | (go_at_call 31; have m33 := m3; refine (sign_n c m t _ hm0 hm).mono ?_; rintro e w4 ⟨rfl, hm4⟩; have m4 : Mo w3 w4 := Mo.trans (by repeat (first | with_reducible exact Mo.refl _ | with_reducible apply Mo.drew | with_reducible apply Mo.alloc)) hm4; obtain ⟨⟨g0, g1, g2, g3, g4, g5⟩, _, gs⟩ := Qa.mo (m3.trans m4); obtain ⟨⟨k0, k1, k2, k3, k4, k5⟩, _, ks⟩ := Qb.mo (m3.trans m4)) | (go_at_call 31; refine (sign_n b n s _ hn0 hn).mono ?_; rintro e w3 ⟨rfl, hm3⟩; have m3 : Mo w1 w3 := Mo.trans (by repeat (first | with_reducible exact Mo.refl _ | with_reducible apply Mo.drew | with_reducible apply Mo.alloc)) hm3; obtain ⟨⟨e0, e1, e2, e3, e4, e5⟩, _, es⟩ := Qa.mo m3; obtain ⟨⟨f0, f1, f2, f3, f4, f5⟩, _, fs⟩ := Qb.mo m3))
    all_goals
      go_wp2
      go_meet
      case rel => exact ⟨rfl, M.trans m6, Qa.mo m6, Qb.mo m6⟩
  case rest =>
    clear ca0 ca1 ca2 ca3 ca4 ca5 fa sa sxa sya cb0 cb1 cb2 cb3 cb4 cb5 fb sb sxb syb Qa Qb M
    obtain ⟨rfl, M, Qa, Qb⟩ := hcut
    have Oa := Qa
    obtain ⟨⟨ca0, ca1, ca2, ca3, ca4, ca5⟩, fa, sa⟩ := Oa
    have fa := fun o => fa o
    have sxa : w.heap.size < wc.heap.size + 1 := by omega
    have sya : w.heap.size < wc.heap.size + 1 + 1 := by omega
    have Ob := Qb
    obtain ⟨⟨cb0, cb1, cb2, cb3, cb4, cb5⟩, fb, sb⟩ := Ob
    have fb := fun o => fb o
    have sxb : w.heap.size + 1 < wc.heap.size + 1 := by omega
    have syb : w.heap.size + 1 < wc.heap.size + 1 + 1 := by omega
    go_wp2
    go_ret
    exact ⟨rfl, M⟩
set_option maxHeartbeats 4000000 in
theorem dcmp_pos (b c : Bool) (n m s t : Int) (w : World) (hn0 : 0 ≤ n) (hn : n < MM) (hm0 : 0 ≤ m) (hm : m < MM) (h1 : ck b n s = 0) (h2 : ck c m t = 0) (S : Int) (i j : Nat) (hS : max s t = S) (hi : S - s = (i : Int)) (hj : S - t = (j : Int)) (hi7 : i ≤ 18) (hj7 : j ≤ 18) (hb : b = false) (ho : cm (sg b n) (sg c m) = 0) :
    Calls Try.prog 51 #[dc b n s, dc c m t] w fun e w' => e = .returned (.int .i64 (cm (n * 10 ^ i) (m * 10 ^ j))) ∧ Mo w w' := by
  subst hb
  subst hS
  have bX := lifted_bd hn0 hn (show i ≤ 77 by omega)
  have bY := lifted_bd hm0 hm (show j ≤ 77 by omega)
  have HI : Hid _ := hi
  have HJ : Hid _ := hj
  clear hi hj
  have hO : (cm (sg false n) (sg c m) == 0) = true := by simp [ho]
  have hO2 : (cm (sg false n) (sg c m) != 0) = false := by simp [ho]
  clear ho
  go_enter Try.func51, Try.ntmps51
  go_wp2_with fail
  refine (both_ok false n s c m t _ hn0 hn hm0 hm h1 h2).mono ?_
  rintro e w1 ⟨rfl, hm1⟩
  have mz : Mo w w1 := Mo.trans (by repeat (first | with_reducible exact Mo.refl _ | with_reducible apply Mo.drew | with_reducible apply Mo.alloc)) hm1
  have M := mz
  have Qa : AtD w1 (w.heap.size) false n s := AtD.mo ⟨by simp [go_sem], fun o => by simp [go_sem], by simp <;> omega⟩ hm1
  have Qb : AtD w1 (w.heap.size + 1) c m t := AtD.mo ⟨by simp [go_sem], fun o => by simp [go_sem], by simp <;> omega⟩ hm1
  clear hm1 mz
  have Oa := Qa
  obtain ⟨⟨ca0, ca1, ca2, ca3, ca4, ca5⟩, fa, sa⟩ := Oa
  have fa := fun o => fa o
  have sxa : w.heap.size < w1.heap.size + 1 := by omega
  have sya : w.heap.size < w1.heap.size + 1 + 1 := by omega
  have Ob := Qb
  obtain ⟨⟨cb0, cb1, cb2, cb3, cb4, cb5⟩, fb, sb⟩ := Ob
  have fb := fun o => fb o
  have sxb : w.heap.size + 1 < w1.heap.size + 1 := by omega
  have syb : w.heap.size + 1 < w1.heap.size + 1 + 1 := by omega
  go_upto_region 3 with fail
  go_cut [5] from 12 to 16 (fun s5 wx => s5 = .int .i64 (cm (sg false n) (sg c m)) ∧ Mo w wx ∧ AtD wx w.heap.size false n s ∧ AtD wx (w.heap.size + 1) c m t)
  case first =>
    go_region_held3 (fun w' => w'.cell? ⟨w.heap.size, 0, none⟩ = some (.bool false) ∧ w'.cell? ⟨w.heap.size, 1, none⟩ = some (.int .u64 (l0 n)) ∧ w'.cell? ⟨w.heap.size, 2, none⟩ = some (.int .u64 (l1 n)) ∧ w'.cell? ⟨w.heap.size, 3, none⟩ = some (.int .u64 (l2 n)) ∧ w'.cell? ⟨w.heap.size, 4, none⟩ = some (.int .u64 (l3 n)) ∧ w'.cell? ⟨w.heap.size, 5, none⟩ = some (.int .i64 s) ∧ w'.cell? ⟨w.heap.size + 1, 0, none⟩ = some (.bool c) ∧ w'.cell? ⟨w.heap.size + 1, 1, none⟩ = some (.int .u64 (l0 m)) ∧ w'.cell? ⟨w.heap.size + 1, 2, none⟩ = some (.int .u64 (l1 m)) ∧ w'.cell? ⟨w.heap.size + 1, 3, none⟩ = some (.int .u64 (l2 m)) ∧ w'.cell? ⟨w.heap.size + 1, 4, none⟩ = some (.int .u64 (l3 m)) ∧ w'.cell? ⟨w.heap.size + 1, 5, none⟩ = some (.int .i64 t)) (simp [go_sem, *])
      (first | (go_at_call 92; refine (compare_n _ _ _).mono ?_; rintro e w5 ⟨rfl, hm5⟩; have m5 : Mo w4 w5 := Mo.trans (by repeat (first | with_reducible exact Mo.refl _ | with_reducible apply Mo.drew | with_reducible apply Mo.alloc)) hm5; have m6 := (m3.trans m4).trans m5; obtain ⟨⟨i0, i1, i2, i3, i4, i5⟩, _, is⟩ := Qa.mo m6; obtain ⟨⟨j0, j1, j2, j3, j4, j5⟩, _, js⟩ := Qb.mo m6) | (go_at_call 31; have m33 := m3; refine (sign_n c m t _ hm0 hm).mono ?_; rintro e w4 ⟨rfl, hm4⟩; have m4 : Mo w3 w4 := Mo.trans (by repeat (first | with_reducible exact Mo.refl _ | with_reducible apply Mo.drew | with_reducible apply Mo.alloc)) hm4; obtain ⟨⟨g0, g1, g2, g3, g4, g5⟩, _, gs⟩ := Qa.mo (m3.trans m4); obtain ⟨⟨k0, k1, k2, k3, k4, k5⟩, _, ks⟩ := Qb.mo (m3.trans m4)) | (go_at_call 31; refine (sign_n false n s _ hn0 hn).mono ?_; rintro e w3 ⟨rfl, hm3⟩; have m3 : Mo w1 w3 := Mo.trans (by repeat (first | with_reducible exact Mo.refl _ | with_reducible apply Mo.drew | with_reducible apply Mo.alloc)) hm3; obtain ⟨⟨e0, e1, e2, e3, e4, e5⟩, _, es⟩ := Qa.mo m3; obtain ⟨⟨f0, f1, f2, f3, f4, f5⟩, _, fs⟩ := Qb.mo m3))
    all_goals
      go_wp2
      go_meet
      case rel => exact ⟨rfl, M.trans m6, Qa.mo m6, Qb.mo m6⟩
  case rest =>
    clear ca0 ca1 ca2 ca3 ca4 ca5 fa sa sxa sya cb0 cb1 cb2 cb3 cb4 cb5 fb sb sxb syb Qa Qb M
    obtain ⟨rfl, M, Qa, Qb⟩ := hcut
    have Oa := Qa
    obtain ⟨⟨ca0, ca1, ca2, ca3, ca4, ca5⟩, fa, sa⟩ := Oa
    have fa := fun o => fa o
    have sxa : w.heap.size < wc.heap.size + 1 := by omega
    have sya : w.heap.size < wc.heap.size + 1 + 1 := by omega
    have Ob := Qb
    obtain ⟨⟨cb0, cb1, cb2, cb3, cb4, cb5⟩, fb, sb⟩ := Ob
    have fb := fun o => fb o
    have sxb : w.heap.size + 1 < wc.heap.size + 1 := by omega
    have syb : w.heap.size + 1 < wc.heap.size + 1 + 1 := by omega
    go_upto_region 7 with fail
    go_cut [7] from 25 to 31 (fun s7 wx => s7 = .int .i64 (cm (n * 10 ^ i) (m * 10 ^ j)) ∧ Mo w wx ∧ AtD wx w.heap.size false n s)
    case first =>
      go_region_held3 (fun w' => w'.cell? ⟨w.heap.size, 0, none⟩ = some (.bool false) ∧ w'.cell? ⟨w.heap.size, 1, none⟩ = some (.int .u64 (l0 n)) ∧ w'.cell? ⟨w.heap.size, 2, none⟩ = some (.int .u64 (l1 n)) ∧ w'.cell? ⟨w.heap.size, 3, none⟩ = some (.int .u64 (l2 n)) ∧ w'.cell? ⟨w.heap.size, 4, none⟩ = some (.int .u64 (l3 n)) ∧ w'.cell? ⟨w.heap.size, 5, none⟩ = some (.int .i64 s) ∧ w'.cell? ⟨w.heap.size + 1, 0, none⟩ = some (.bool c) ∧ w'.cell? ⟨w.heap.size + 1, 1, none⟩ = some (.int .u64 (l0 m)) ∧ w'.cell? ⟨w.heap.size + 1, 2, none⟩ = some (.int .u64 (l1 m)) ∧ w'.cell? ⟨w.heap.size + 1, 3, none⟩ = some (.int .u64 (l2 m)) ∧ w'.cell? ⟨w.heap.size + 1, 4, none⟩ = some (.int .u64 (l3 m)) ∧ w'.cell? ⟨w.heap.size + 1, 5, none⟩ = some (.int .i64 t)) (simp [go_sem, *])
        (first | (go_at_call 79; refine (cmpDouble_x _ _ _ bX.1 bX.2 bY.1 bY.2).mono ?_; rintro e w9 ⟨rfl, hm9⟩; have m9 : Mo w8 w9 := Mo.trans (by repeat (first | with_reducible exact Mo.refl _ | with_reducible apply Mo.drew | with_reducible apply Mo.alloc)) hm9; have m10 := (m7.trans m8).trans m9; obtain ⟨⟨i0, i1, i2, i3, i4, i5⟩, _, is⟩ := Qa.mo m10; obtain ⟨⟨j0, j1, j2, j3, j4, j5⟩, _, js⟩ := Qb.mo m10) | (go_at_call 76; have m77 := m7; refine (lift_x _ _ _ _ j _ hm0 hm HJ.out (by omega)).mono ?_; rintro e w8 ⟨rfl, hm8⟩; have m8 : Mo w7 w8 := Mo.trans (by repeat (first | with_reducible exact Mo.refl _ | with_reducible apply Mo.drew | with_reducible apply Mo.alloc)) hm8; obtain ⟨⟨g0, g1, g2, g3, g4, g5⟩, _, gs⟩ := Qa.mo (m7.trans m8); obtain ⟨⟨k0, k1, k2, k3, k4, k5⟩, _, ks⟩ := Qb.mo (m7.trans m8)) | (go_at_call 76; refine (lift_x _ _ _ _ i _ hn0 hn HI.out (by omega)).mono ?_; rintro e w7 ⟨rfl, hm7⟩; have m7 : Mo wc w7 := Mo.trans (by repeat (first | with_reducible exact Mo.refl _ | with_reducible apply Mo.drew | with_reducible apply Mo.alloc)) hm7; obtain ⟨⟨e0, e1, e2, e3, e4, e5⟩, _, es⟩ := Qa.mo m7; obtain ⟨⟨f0, f1, f2, f3, f4, f5⟩, _, fs⟩ := Qb.mo m7))
      all_goals
        go_wp2
        go_meet
        case rel => exact ⟨rfl, M.trans m10, Qa.mo m10⟩
    case rest =>
      clear ca0 ca1 ca2 ca3 ca4 ca5 fa sa sxa sya cb0 cb1 cb2 cb3 cb4 cb5 fb sb sxb syb Qa Qb M
      obtain ⟨rfl, M, Qa⟩ := hcut
      have Oa := Qa
      obtain ⟨⟨ca0, ca1, ca2, ca3, ca4, ca5⟩, fa, sa⟩ := Oa
      have fa := fun o => fa o
      have sxa : w.heap.size < wc.heap.size + 1 := by omega
      have sya : w.heap.size < wc.heap.size + 1 + 1 := by omega
      go_wp2
      go_ret
      exact ⟨rfl, M⟩
set_option maxHeartbeats 4000000 in
theorem dcmp_neg (b c : Bool) (n m s t : Int) (w : World) (hn0 : 0 ≤ n) (hn : n < MM) (hm0 : 0 ≤ m) (hm : m < MM) (h1 : ck b n s = 0) (h2 : ck c m t = 0) (S : Int) (i j : Nat) (hS : max s t = S) (hi : S - s = (i : Int)) (hj : S - t = (j : Int)) (hi7 : i ≤ 18) (hj7 : j ≤ 18) (hb : b = true) (ho : cm (sg b n) (sg c m) = 0) :
    Calls Try.prog 51 #[dc b n s, dc c m t] w fun e w' => e = .returned (.int .i64 (-(cm (n * 10 ^ i) (m * 10 ^ j)))) ∧ Mo w w' := by
  subst hb
  subst hS
  have bX := lifted_bd hn0 hn (show i ≤ 77 by omega)
  have bY := lifted_bd hm0 hm (show j ≤ 77 by omega)
  have HI : Hid _ := hi
  have HJ : Hid _ := hj
  clear hi hj
  have wn : IntKind.i64.wrap (-(cm (n * 10 ^ i) (m * 10 ^ j))) = -(cm (n * 10 ^ i) (m * 10 ^ j)) := by unfold cm; split <;> (try split) <;> decide
  have hO : (cm (sg true n) (sg c m) == 0) = true := by simp [ho]
  have hO2 : (cm (sg true n) (sg c m) != 0) = false := by simp [ho]
  clear ho
  go_enter Try.func51, Try.ntmps51
  go_wp2_with fail
  refine (both_ok true n s c m t _ hn0 hn hm0 hm h1 h2).mono ?_
  rintro e w1 ⟨rfl, hm1⟩
  have mz : Mo w w1 := Mo.trans (by repeat (first | with_reducible exact Mo.refl _ | with_reducible apply Mo.drew | with_reducible apply Mo.alloc)) hm1
  have M := mz
  have Qa : AtD w1 (w.heap.size) true n s := AtD.mo ⟨by simp [go_sem], fun o => by simp [go_sem], by simp <;> omega⟩ hm1
  have Qb : AtD w1 (w.heap.size + 1) c m t := AtD.mo ⟨by simp [go_sem], fun o => by simp [go_sem], by simp <;> omega⟩ hm1
  clear hm1 mz
  have Oa := Qa
  obtain ⟨⟨ca0, ca1, ca2, ca3, ca4, ca5⟩, fa, sa⟩ := Oa
  have fa := fun o => fa o
  have sxa : w.heap.size < w1.heap.size + 1 := by omega
  have sya : w.heap.size < w1.heap.size + 1 + 1 := by omega
  have Ob := Qb
  obtain ⟨⟨cb0, cb1, cb2, cb3, cb4, cb5⟩, fb, sb⟩ := Ob
  have fb := fun o => fb o
  have sxb : w.heap.size + 1 < w1.heap.size + 1 := by omega
  have syb : w.heap.size + 1 < w1.heap.size + 1 + 1 := by omega
  go_upto_region 3 with fail
  go_cut [5] from 12 to 16 (fun s5 wx => s5 = .int .i64 (cm (sg true n) (sg c m)) ∧ Mo w wx ∧ AtD wx w.heap.size true n s ∧ AtD wx (w.heap.size + 1) c m t)
  case first =>
    go_region_held3 (fun w' => w'.cell? ⟨w.heap.size, 0, none⟩ = some (.bool true) ∧ w'.cell? ⟨w.heap.size, 1, none⟩ = some (.int .u64 (l0 n)) ∧ w'.cell? ⟨w.heap.size, 2, none⟩ = some (.int .u64 (l1 n)) ∧ w'.cell? ⟨w.heap.size, 3, none⟩ = some (.int .u64 (l2 n)) ∧ w'.cell? ⟨w.heap.size, 4, none⟩ = some (.int .u64 (l3 n)) ∧ w'.cell? ⟨w.heap.size, 5, none⟩ = some (.int .i64 s) ∧ w'.cell? ⟨w.heap.size + 1, 0, none⟩ = some (.bool c) ∧ w'.cell? ⟨w.heap.size + 1, 1, none⟩ = some (.int .u64 (l0 m)) ∧ w'.cell? ⟨w.heap.size + 1, 2, none⟩ = some (.int .u64 (l1 m)) ∧ w'.cell? ⟨w.heap.size + 1, 3, none⟩ = some (.int .u64 (l2 m)) ∧ w'.cell? ⟨w.heap.size + 1, 4, none⟩ = some (.int .u64 (l3 m)) ∧ w'.cell? ⟨w.heap.size + 1, 5, none⟩ = some (.int .i64 t)) (simp [go_sem, *])
      (first | (go_at_call 92; refine (compare_n _ _ _).mono ?_; rintro e w5 ⟨rfl, hm5⟩; have m5 : Mo w4 w5 := Mo.trans (by repeat (first | with_reducible exact Mo.refl _ | with_reducible apply Mo.drew | with_reducible apply Mo.alloc)) hm5; have m6 := (m3.trans m4).trans m5; obtain ⟨⟨i0, i1, i2, i3, i4, i5⟩, _, is⟩ := Qa.mo m6; obtain ⟨⟨j0, j1, j2, j3, j4, j5⟩, _, js⟩ := Qb.mo m6) | (go_at_call 31; have m33 := m3; refine (sign_n c m t _ hm0 hm).mono ?_; rintro e w4 ⟨rfl, hm4⟩; have m4 : Mo w3 w4 := Mo.trans (by repeat (first | with_reducible exact Mo.refl _ | with_reducible apply Mo.drew | with_reducible apply Mo.alloc)) hm4; obtain ⟨⟨g0, g1, g2, g3, g4, g5⟩, _, gs⟩ := Qa.mo (m3.trans m4); obtain ⟨⟨k0, k1, k2, k3, k4, k5⟩, _, ks⟩ := Qb.mo (m3.trans m4)) | (go_at_call 31; refine (sign_n true n s _ hn0 hn).mono ?_; rintro e w3 ⟨rfl, hm3⟩; have m3 : Mo w1 w3 := Mo.trans (by repeat (first | with_reducible exact Mo.refl _ | with_reducible apply Mo.drew | with_reducible apply Mo.alloc)) hm3; obtain ⟨⟨e0, e1, e2, e3, e4, e5⟩, _, es⟩ := Qa.mo m3; obtain ⟨⟨f0, f1, f2, f3, f4, f5⟩, _, fs⟩ := Qb.mo m3))
    all_goals
      go_wp2
      go_meet
      case rel => exact ⟨rfl, M.trans m6, Qa.mo m6, Qb.mo m6⟩
  case rest =>
    clear ca0 ca1 ca2 ca3 ca4 ca5 fa sa sxa sya cb0 cb1 cb2 cb3 cb4 cb5 fb sb sxb syb Qa Qb M
    obtain ⟨rfl, M, Qa, Qb⟩ := hcut
    have Oa := Qa
    obtain ⟨⟨ca0, ca1, ca2, ca3, ca4, ca5⟩, fa, sa⟩ := Oa
    have fa := fun o => fa o
    have sxa : w.heap.size < wc.heap.size + 1 := by omega
    have sya : w.heap.size < wc.heap.size + 1 + 1 := by omega
    have Ob := Qb
    obtain ⟨⟨cb0, cb1, cb2, cb3, cb4, cb5⟩, fb, sb⟩ := Ob
    have fb := fun o => fb o
    have sxb : w.heap.size + 1 < wc.heap.size + 1 := by omega
    have syb : w.heap.size + 1 < wc.heap.size + 1 + 1 := by omega
    go_upto_region 7 with fail
    go_cut [7] from 25 to 31 (fun s7 wx => s7 = .int .i64 (cm (n * 10 ^ i) (m * 10 ^ j)) ∧ Mo w wx ∧ AtD wx w.heap.size true n s)
    case first =>
      go_region_held3 (fun w' => w'.cell? ⟨w.heap.size, 0, none⟩ = some (.bool true) ∧ w'.cell? ⟨w.heap.size, 1, none⟩ = some (.int .u64 (l0 n)) ∧ w'.cell? ⟨w.heap.size, 2, none⟩ = some (.int .u64 (l1 n)) ∧ w'.cell? ⟨w.heap.size, 3, none⟩ = some (.int .u64 (l2 n)) ∧ w'.cell? ⟨w.heap.size, 4, none⟩ = some (.int .u64 (l3 n)) ∧ w'.cell? ⟨w.heap.size, 5, none⟩ = some (.int .i64 s) ∧ w'.cell? ⟨w.heap.size + 1, 0, none⟩ = some (.bool c) ∧ w'.cell? ⟨w.heap.size + 1, 1, none⟩ = some (.int .u64 (l0 m)) ∧ w'.cell? ⟨w.heap.size + 1, 2, none⟩ = some (.int .u64 (l1 m)) ∧ w'.cell? ⟨w.heap.size + 1, 3, none⟩ = some (.int .u64 (l2 m)) ∧ w'.cell? ⟨w.heap.size + 1, 4, none⟩ = some (.int .u64 (l3 m)) ∧ w'.cell? ⟨w.heap.size + 1, 5, none⟩ = some (.int .i64 t)) (simp [go_sem, *])
        (first | (go_at_call 79; refine (cmpDouble_x _ _ _ bX.1 bX.2 bY.1 bY.2).mono ?_; rintro e w9 ⟨rfl, hm9⟩; have m9 : Mo w8 w9 := Mo.trans (by repeat (first | with_reducible exact Mo.refl _ | with_reducible apply Mo.drew | with_reducible apply Mo.alloc)) hm9; have m10 := (m7.trans m8).trans m9; obtain ⟨⟨i0, i1, i2, i3, i4, i5⟩, _, is⟩ := Qa.mo m10; obtain ⟨⟨j0, j1, j2, j3, j4, j5⟩, _, js⟩ := Qb.mo m10) | (go_at_call 76; have m77 := m7; refine (lift_x _ _ _ _ j _ hm0 hm HJ.out (by omega)).mono ?_; rintro e w8 ⟨rfl, hm8⟩; have m8 : Mo w7 w8 := Mo.trans (by repeat (first | with_reducible exact Mo.refl _ | with_reducible apply Mo.drew | with_reducible apply Mo.alloc)) hm8; obtain ⟨⟨g0, g1, g2, g3, g4, g5⟩, _, gs⟩ := Qa.mo (m7.trans m8); obtain ⟨⟨k0, k1, k2, k3, k4, k5⟩, _, ks⟩ := Qb.mo (m7.trans m8)) | (go_at_call 76; refine (lift_x _ _ _ _ i _ hn0 hn HI.out (by omega)).mono ?_; rintro e w7 ⟨rfl, hm7⟩; have m7 : Mo wc w7 := Mo.trans (by repeat (first | with_reducible exact Mo.refl _ | with_reducible apply Mo.drew | with_reducible apply Mo.alloc)) hm7; obtain ⟨⟨e0, e1, e2, e3, e4, e5⟩, _, es⟩ := Qa.mo m7; obtain ⟨⟨f0, f1, f2, f3, f4, f5⟩, _, fs⟩ := Qb.mo m7))
      all_goals
        go_wp2
        go_meet
        case rel => exact ⟨rfl, M.trans m10, Qa.mo m10⟩
    case rest =>
      clear ca0 ca1 ca2 ca3 ca4 ca5 fa sa sxa sya cb0 cb1 cb2 cb3 cb4 cb5 fb sb sxb syb Qa Qb M
      obtain ⟨rfl, M, Qa⟩ := hcut
      have Oa := Qa
      obtain ⟨⟨ca0, ca1, ca2, ca3, ca4, ca5⟩, fa, sa⟩ := Oa
      have fa := fun o => fa o
      have sxa : w.heap.size < wc.heap.size + 1 := by omega
      have sya : w.heap.size < wc.heap.size + 1 + 1 := by omega
      go_wp2
      go_ret
      exact ⟨rfl, M⟩
end Go.Proofs.Ytoiiekmkcpcbgaa
/-
  decimal.Add: the walk, step by step.
-/
namespace Go.Proofs.Ytoiiekmkcpcbgaa
open Go.RowKit
theorem eqb_run {a b r : Bool} (h : (a == b) = r) (x y : Operand) (w : World) : (do eqGuard .eql 4 x y (.bool a) (.bool b); binOp .eql 4 (.bool a) (.bool b)).run Try.prog w = .ok (.bool r) w := by
  subst h; kernel_rfl
theorem lss_run {a b : Int} {r : Bool} (h : decide (a < b) = r) (x y : Operand) (w : World) : (do eqGuard .lss 3 x y (.int .i64 a) (.int .i64 b); binOp .lss 3 (.int .i64 a) (.int .i64 b)).run Try.prog w = .ok (.bool r) w := by
  subst h; kernel_rfl
theorem add_same (bu bv : Bool) (n m s t S : Int) (i j : Nat) (d0 d1 d2 d3 d4 d5 : Value) (e : Int) (w : World) (hn0 : 0 ≤ n) (hn : n < MM) (hm0 : 0 ≤ m) (hm : m < MM) (h1 : ck bu n s = 0) (h2 : ck bv m t = 0) (hS : max s t = S) (hi : S - s = (i : Int)) (hj : S - t = (j : Int)) (hi7 : i ≤ 18) (hj7 : j ≤ 18) (hb : (bu == bv) = true)
    (hd : [d0, d1, d2, d3, d4, d5].all (·.oneCell') = true)
    (hfit : ∀ w, Calls Try.prog 77 #[.bool bu, dx (n * 10 ^ i + m * 10 ^ j), .int .i64 S] w fun e' w' => e' = .returned (.tuple #[.agg #[d0, d1, d2, d3, d4, d5], .int .i64 e]) ∧ Mo w w') :
    Calls Try.prog 35 #[dc bu n s, dc bv m t] w fun e' w' => e' = .returned (.tuple #[.agg #[d0, d1, d2, d3, d4, d5], .int .i64 e]) ∧ Mo w w' := by
  have bX := lifted_bd hn0 hn (i := i) (by omega)
  have bY := lifted_bd hm0 hm (i := j) (by omega)
  refine w_enter 64 Try.func35 Try.ntmps35 rfl rfl ?_
  have M : Mo w w := Mo.refl _
  refine w_seq ?_
  refine w_reg ?_
  refine wl_box 40 (.tmp 0) (.agg #[.bool bu, .int .u64 (l0 (n)), .int .u64 (l1 (n)), .int .u64 (l2 (n)), .int .u64 (l3 (n)), .int .i64 (s)]) (#[.bool bu, .int .u64 (l0 (n)), .int .u64 (l1 (n)), .int .u64 (l2 (n)), .int .u64 (l3 (n)), .int .i64 (s)]) rfl rfl (fun _ => by kernel_rfl) rfl ?_
  intro k1 w1 hk hz hq Q1
  have N_k1 : w.heap.size ≤ k1 := by have := M.size; omega
  replace M := M.trans hq
  clear hk hz hq
  refine wl_box 40 (.tmp 1) (.agg #[.bool bv, .int .u64 (l0 (m)), .int .u64 (l1 (m)), .int .u64 (l2 (m)), .int .u64 (l3 (m)), .int .i64 (t)]) (#[.bool bv, .int .u64 (l0 (m)), .int .u64 (l1 (m)), .int .u64 (l2 (m)), .int .u64 (l3 (m)), .int .i64 (t)]) rfl rfl (fun _ => by kernel_rfl) rfl ?_
  intro k2 w2 hk hz hq Q2
  have ne_k1_k2 : k1 ≠ k2 := by have := Q1.lt; omega
  have N_k2 : w.heap.size ≤ k2 := by have := M.size; omega
  replace Q1 := Q1.mo hq
  replace M := M.trans hq
  clear hk hz hq
  refine wl_alloc 40 #[.bool false, .int .u64 0, .int .u64 0, .int .u64 0, .int .u64 0, .int .i64 0] rfl (fun _ => by kernel_rfl) rfl ?_
  intro k3 w3 hk hz hq Q3
  have ne_k1_k3 : k1 ≠ k3 := by have := Q1.lt; omega
  have ne_k2_k3 : k2 ≠ k3 := by have := Q2.lt; omega
  have N_k3 : w.heap.size ≤ k3 := by have := M.size; omega
  replace Q1 := Q1.mo hq
  replace Q2 := Q2.mo hq
  replace M := M.trans hq
  clear hk hz hq
  refine wl_mv (.const (.int .i64 (0))) (.int .i64 (0)) (fun _ => rfl) rfl rfl ?_
  refine w_nil ?_
  refine xn_then ?_
  refine w_seq ?_
  refine w_seq ?_
  refine w_reg ?_
  refine wl_load 40 (.tmp 2) (pt k1 0) (.agg #[.bool bu, .int .u64 (l0 (n)), .int .u64 (l1 (n)), .int .u64 (l2 (n)), .int .u64 (l3 (n)), .int .i64 (s)]) rfl rfl (run_row Q1 40 0 6 [.bool bu, .int .u64 (l0 (n)), .int .u64 (l1 (n)), .int .u64 (l2 (n)), .int .u64 (l3 (n)), .int .i64 (s)] rfl Try.underlying40 rfl sz40) rfl ?_
  refine wl_load 40 (.tmp 3) (pt k2 0) (.agg #[.bool bv, .int .u64 (l0 (m)), .int .u64 (l1 (m)), .int .u64 (l2 (m)), .int .u64 (l3 (m)), .int .i64 (t)]) rfl rfl (run_row Q2 40 0 6 [.bool bv, .int .u64 (l0 (m)), .int .u64 (l1 (m)), .int .u64 (l2 (m)), .int .u64 (l3 (m)), .int .i64 (t)] rfl Try.underlying40 rfl sz40) rfl ?_
  refine wl_call 75 [(.tmp 10), (.tmp 11)] _ [.agg #[.bool bu, .int .u64 (l0 (n)), .int .u64 (l1 (n)), .int .u64 (l2 (n)), .int .u64 (l3 (n)), .int .i64 (s)], .agg #[.bool bv, .int .u64 (l0 (m)), .int .u64 (l1 (m)), .int .u64 (l2 (m)), .int .u64 (l3 (m)), .int .i64 (t)]] (.int .i64 (0)) rfl rfl (fun _ _ => by kernel_rfl) (both_ok bu n s bv m t _ hn0 hn hm0 hm h1 h2) rfl ?_
  intro w4 hq
  replace Q1 := Q1.mo hq
  replace Q2 := Q2.mo hq
  replace Q3 := Q3.mo hq
  replace M := M.trans hq
  clear hq
  refine wl_mv (.tmp 12) (.int .i64 (0)) (fun _ => rfl) rfl rfl ?_
  refine w_nil ?_
  refine xn_then ?_
  refine w_seq ?_
  refine w_reg ?_
  refine wl_mv (.tmp 6) (.int .i64 (0)) (fun _ => rfl) rfl rfl ?_
  refine wl_bin (fun x y => do eqGuard .neq 32 (.tmp 13) (.const (.int .i64 (0))) x y; binOp .neq 32 x y) (.tmp 13) (.const (.int .i64 (0))) (.int .i64 (0)) (.int .i64 (0)) (.bool false) (fun _ => rfl) rfl rfl (by kernel_rfl) rfl ?_
  refine w_nil ?_
  refine xn_then ?_
  refine w_condF rfl ?_
  refine w_skip ?_
  refine xn_then ?_
  refine w_seq ?_
  refine w_reg ?_
  refine wl_un (fun v => Instr.fieldAt 40 v 2) (.tmp 2) (pt k1 0) (pt k1 5) (fun _ => rfl) rfl (by kernel_rfl) rfl ?_
  refine wl_load 3 (.tmp 17) (pt k1 5) (.int .i64 (s)) rfl rfl (run_one Q1 3 5 rfl Try.underlying3 rfl) rfl ?_
  refine wl_un (fun v => Instr.fieldAt 40 v 2) (.tmp 3) (pt k2 0) (pt k2 5) (fun _ => rfl) rfl (by kernel_rfl) rfl ?_
  refine wl_load 3 (.tmp 19) (pt k2 5) (.int .i64 (t)) rfl rfl (run_one Q2 3 5 rfl Try.underlying3 rfl) rfl ?_
  refine wl_val (.int .i64 (S)) (by rw [← hS]; exact max_run _ _ _ _ _ rfl rfl _ _ _ _ _ _) rfl ?_
  refine wl_mv (.tmp 21) (.int .i64 (S)) (fun _ => rfl) rfl rfl ?_
  refine w_nil ?_
  refine xn_then ?_
  refine w_seq ?_
  refine w_any 8 [.inl (.agg #[.bool bu, .int .u64 (l0 (n)), .int .u64 (l1 (n)), .int .u64 (l2 (n)), .int .u64 (l3 (n)), .int .i64 (s)]), .inl (.int .i64 (S)), .inl (.agg (dwa (n * 10 ^ i))), .inl (.agg #[.bool bv, .int .u64 (l0 (m)), .int .u64 (l1 (m)), .int .u64 (l2 (m)), .int .u64 (l3 (m)), .int .i64 (t)]), .inl (.int .i64 (S)), .inl (.agg (dwa (m * 10 ^ j))), .inr [.int .u64 0, .int .u64 0, .int .u64 0, .int .u64 0, .int .u64 0, .int .u64 0, .int .u64 0, .int .u64 0], .inr [.int .u64 0, .int .u64 0, .int .u64 0, .int .u64 0, .int .u64 0, .int .u64 0, .int .u64 0, .int .u64 0]] [] (by kernel_rfl) (by kernel_rfl) (by kernel_rfl) (by kernel_rfl) rfl (by kernel_rfl) (by kernel_rfl) late_nil ?_ ?_ ?_
  · exact Ds.start (by kernel_rfl)
  · refine ea_cons ?_ (ea_cons ?_ (ea_cons ?_ (ea_cons ?_ (ea_cons ?_ (ea_cons ?_ (ea_cons ?_ (ea_cons ?_ (ea_nil))))))))
    · exact og_eq (.agg #[.bool bu, .int .u64 (l0 (n)), .int .u64 (l1 (n)), .int .u64 (l2 (n)), .int .u64 (l3 (n)), .int .i64 (s)]) rfl (fun f wf hq hd K hK => have Q1 := Q1.mo hq; go_run rfl (wo_load 40 (.tmp 2) (pt k1 0) (.agg #[.bool bu, .int .u64 (l0 (n)), .int .u64 (l1 (n)), .int .u64 (l2 (n)), .int .u64 (l3 (n)), .int .i64 (s)]) rfl rfl (run_row Q1 40 0 6 [.bool bu, .int .u64 (l0 (n)), .int .u64 (l1 (n)), .int .u64 (l2 (n)), .int .u64 (l3 (n)), .int .i64 (s)] rfl Try.underlying40 rfl sz40) (hK _ (Mo.refl _))))
    · exact og_eq (.int .i64 (S)) rfl (fun f wf hq hd K hK => go_run rfl (wo_mv (.tmp 7) (.int .i64 (S)) (fun _ => rfl) rfl (hK _ (Mo.refl _))))
    · exact og_eq (.agg (dwa (n * 10 ^ i))) rfl (fun f wf hq hd K hK => go_run rfl (wo_call 76 [(.tmp 22), (.tmp 23)] _ [.agg #[.bool bu, .int .u64 (l0 (n)), .int .u64 (l1 (n)), .int .u64 (l2 (n)), .int .u64 (l3 (n)), .int .i64 (s)], .int .i64 (S)] (.agg (dwa (n * 10 ^ i))) rfl (li2 (hd 0 rfl) (hd 1 rfl)) (fun _ _ => by kernel_rfl) (lift_x bu n s S i _ hn0 hn hi (by omega)) hK))
    · exact og_eq (.agg #[.bool bv, .int .u64 (l0 (m)), .int .u64 (l1 (m)), .int .u64 (l2 (m)), .int .u64 (l3 (m)), .int .i64 (t)]) rfl (fun f wf hq hd K hK => have Q2 := Q2.mo hq; go_run rfl (wo_load 40 (.tmp 3) (pt k2 0) (.agg #[.bool bv, .int .u64 (l0 (m)), .int .u64 (l1 (m)), .int .u64 (l2 (m)), .int .u64 (l3 (m)), .int .i64 (t)]) rfl rfl (run_row Q2 40 0 6 [.bool bv, .int .u64 (l0 (m)), .int .u64 (l1 (m)), .int .u64 (l2 (m)), .int .u64 (l3 (m)), .int .i64 (t)] rfl Try.underlying40 rfl sz40) (hK _ (Mo.refl _))))
    · exact og_eq (.int .i64 (S)) rfl (fun f wf hq hd K hK => go_run rfl (wo_mv (.tmp 7) (.int .i64 (S)) (fun _ => rfl) rfl (hK _ (Mo.refl _))))
    · exact og_eq (.agg (dwa (m * 10 ^ j))) rfl (fun f wf hq hd K hK => go_run rfl (wo_call 76 [(.tmp 25), (.tmp 26)] _ [.agg #[.bool bv, .int .u64 (l0 (m)), .int .u64 (l1 (m)), .int .u64 (l2 (m)), .int .u64 (l3 (m)), .int .i64 (t)], .int .i64 (S)] (.agg (dwa (m * 10 ^ j))) rfl (li2 (hd 3 rfl) (hd 4 rfl)) (fun _ _ => by kernel_rfl) (lift_x bv m t S j _ hm0 hm hj (by omega)) hK))
    · exact og_new [.int .u64 0, .int .u64 0, .int .u64 0, .int .u64 0, .int .u64 0, .int .u64 0, .int .u64 0, .int .u64 0] rfl (fun f wf hq hd K hK => go_run rfl (wo_alloc 81 #[.int .u64 0, .int .u64 0, .int .u64 0, .int .u64 0, .int .u64 0, .int .u64 0, .int .u64 0, .int .u64 0] rfl (fun _ => by kernel_rfl) hK))
    · exact og_new [.int .u64 0, .int .u64 0, .int .u64 0, .int .u64 0, .int .u64 0, .int .u64 0, .int .u64 0, .int .u64 0] rfl (fun f wf hq hd K hK => go_run rfl (wo_alloc 81 #[.int .u64 0, .int .u64 0, .int .u64 0, .int .u64 0, .int .u64 0, .int .u64 0, .int .u64 0, .int .u64 0] rfl (fun _ => by kernel_rfl) hK))
  intro kf5 w5 hq hR hne
  obtain ⟨N_k4, Q4⟩ := hR 6 _ rfl rfl
  obtain ⟨N_k5, Q5⟩ := hR 7 _ rfl rfl
  have ne_k1_k4 : k1 ≠ (kf5 6) := by have := Q1.lt; omega
  have ne_k2_k4 : k2 ≠ (kf5 6) := by have := Q2.lt; omega
  have ne_k3_k4 : k3 ≠ (kf5 6) := by have := Q3.lt; omega
  have ne_k4_k5 := hne 6 7 rfl rfl rfl rfl (by decide)
  replace N_k4 := Nat.le_trans M.size N_k4
  have ne_k1_k5 : k1 ≠ (kf5 7) := by have := Q1.lt; omega
  have ne_k2_k5 : k2 ≠ (kf5 7) := by have := Q2.lt; omega
  have ne_k3_k5 : k3 ≠ (kf5 7) := by have := Q3.lt; omega
  replace N_k5 := Nat.le_trans M.size N_k5
  replace Q1 := Q1.mo hq
  replace Q2 := Q2.mo hq
  replace Q3 := Q3.mo hq
  replace M := M.trans hq
  clear hq hR hne
  refine wl_st 81 (.tmp 8) (.tmp 24) (kf5 6) 0 (dwa (n * 10 ^ i)) [.int .u64 0, .int .u64 0, .int .u64 0, .int .u64 0, .int .u64 0, .int .u64 0, .int .u64 0, .int .u64 0] (dwa (n * 10 ^ i)).toList Q4 rfl rfl rfl rfl rfl sz81 rfl rfl rfl ?_
  intro w6 hS Qn
  replace Q4 := Qn
  clear Qn
  replace Q1 := hS.other _ _ ne_k1_k4 Q1
  replace Q2 := hS.other _ _ ne_k2_k4 Q2
  replace Q3 := hS.other _ _ ne_k3_k4 Q3
  replace Q5 := hS.other _ _ ne_k4_k5.symm Q5
  replace M := hS.mo _ N_k4 M
  clear hS
  refine wl_st 81 (.tmp 9) (.tmp 27) (kf5 7) 0 (dwa (m * 10 ^ j)) [.int .u64 0, .int .u64 0, .int .u64 0, .int .u64 0, .int .u64 0, .int .u64 0, .int .u64 0, .int .u64 0] (dwa (m * 10 ^ j)).toList Q5 rfl rfl rfl rfl rfl sz81 rfl rfl rfl ?_
  intro w7 hS Qn
  replace Q5 := Qn
  clear Qn
  replace Q1 := hS.other _ _ ne_k1_k5 Q1
  replace Q2 := hS.other _ _ ne_k2_k5 Q2
  replace Q3 := hS.other _ _ ne_k3_k5 Q3
  replace Q4 := hS.other _ _ ne_k4_k5 Q4
  replace M := hS.mo _ N_k5 M
  clear hS
  refine w_nil ?_
  refine xn_then ?_
  refine w_seq ?_
  refine w_seq ?_
  refine w_reg ?_
  refine wl_un (fun v => Instr.fieldAt 40 v 0) (.tmp 2) (pt k1 0) (pt k1 0) (fun _ => rfl) rfl (by kernel_rfl) rfl ?_
  refine wl_load 4 (.tmp 28) (pt k1 0) (.bool bu) rfl rfl (run_one Q1 4 0 rfl Try.underlying4 rfl) rfl ?_
  refine wl_un (fun v => Instr.fieldAt 40 v 0) (.tmp 3) (pt k2 0) (pt k2 0) (fun _ => rfl) rfl (by kernel_rfl) rfl ?_
  refine wl_load 4 (.tmp 30) (pt k2 0) (.bool bv) rfl rfl (run_one Q2 4 0 rfl Try.underlying4 rfl) rfl ?_
  refine wl_bin (fun x y => do eqGuard .eql 4 (.tmp 29) (.tmp 31) x y; binOp .eql 4 x y) (.tmp 29) (.tmp 31) (.bool bu) (.bool bv) (.bool true) (fun _ => rfl) rfl rfl (eqb_run hb _ _ _) rfl ?_
  refine w_nil ?_
  refine xn_then ?_
  refine w_condT rfl ?_
  refine w_seq ?_
  refine w_any 9 [.inl (pt k1 0), .inl (.bool bu), .inl (.agg (dwa (n * 10 ^ i))), .inl (.agg (dwa (m * 10 ^ j))), .inl (.agg (dwa (n * 10 ^ i + m * 10 ^ j))), .inl (.int .i64 (S)), .inl (.tuple #[.agg #[d0, d1, d2, d3, d4, d5], .int .i64 e]), .inl (.agg #[d0, d1, d2, d3, d4, d5]), .inl (.int .i64 e)] [] (by kernel_rfl) (by kernel_rfl) (by kernel_rfl) (by kernel_rfl) rfl (by kernel_rfl) (by kernel_rfl) late_nil ?_ ?_ ?_
  · exact Ds.none rfl
  · refine ea_cons ?_ (ea_cons ?_ (ea_cons ?_ (ea_cons ?_ (ea_cons ?_ (ea_cons ?_ (ea_cons ?_ (ea_cons ?_ (ea_cons ?_ (ea_nil)))))))))
    · exact og_eq (pt k1 0) rfl (fun f wf hq hd K hK => go_run rfl (wo_un (fun v => Instr.fieldAt 40 v 0) (.tmp 2) (pt k1 0) (pt k1 0) (fun _ => rfl) rfl (by kernel_rfl) (hK _ (Mo.refl _))))
    · exact og_eq (.bool bu) rfl (fun f wf hq hd K hK => have Q1 := Q1.mo hq; go_run rfl (wo_load 4 (.tmp 33) (pt k1 0) (.bool bu) rfl (hd 0 rfl) (run_one Q1 4 0 rfl Try.underlying4 rfl) (hK _ (Mo.refl _))))
    · exact og_eq (.agg (dwa (n * 10 ^ i))) rfl (fun f wf hq hd K hK => have Q4 := Q4.mo hq; go_run rfl (wo_load 81 (.tmp 8) (pt (kf5 6) 0) (.agg (dwa (n * 10 ^ i))) rfl rfl (run_row Q4 81 0 8 (dwa (n * 10 ^ i)).toList rfl Try.underlying81 rfl sz81) (hK _ (Mo.refl _))))
    · exact og_eq (.agg (dwa (m * 10 ^ j))) rfl (fun f wf hq hd K hK => have Q5 := Q5.mo hq; go_run rfl (wo_load 81 (.tmp 9) (pt (kf5 7) 0) (.agg (dwa (m * 10 ^ j))) rfl rfl (run_row Q5 81 0 8 (dwa (m * 10 ^ j)).toList rfl Try.underlying81 rfl sz81) (hK _ (Mo.refl _))))
    · exact og_eq (.agg (dwa (n * 10 ^ i + m * 10 ^ j))) rfl (fun f wf hq hd K hK => go_run rfl (wo_call 78 [(.tmp 35), (.tmp 36)] _ [.agg (dwa (n * 10 ^ i)), .agg (dwa (m * 10 ^ j))] (.agg (dwa (n * 10 ^ i + m * 10 ^ j))) rfl (li2 (hd 2 rfl) (hd 3 rfl)) (fun _ _ => by kernel_rfl) (addDouble_x (n * 10 ^ i) (m * 10 ^ j) _ bX.1 bX.2 bY.1 bY.2) hK))
    · exact og_eq (.int .i64 (S)) rfl (fun f wf hq hd K hK => go_run rfl (wo_mv (.tmp 7) (.int .i64 (S)) (fun _ => rfl) rfl (hK _ (Mo.refl _))))
    · exact og_eq (.tuple #[.agg #[d0, d1, d2, d3, d4, d5], .int .i64 e]) rfl (fun f wf hq hd K hK => go_run rfl (wo_call 77 [(.tmp 34), (.tmp 37), (.tmp 38)] _ [.bool bu, .agg (dwa (n * 10 ^ i + m * 10 ^ j)), .int .i64 (S)] (.tuple #[.agg #[d0, d1, d2, d3, d4, d5], .int .i64 e]) rfl (li3 (hd 1 rfl) (hd 4 rfl) (hd 5 rfl)) (fun _ _ => by kernel_rfl) (hfit _) hK))
    · exact og_eq (.agg #[d0, d1, d2, d3, d4, d5]) rfl (fun f wf hq hd K hK => go_run rfl (wo_un (fun v => Instr.extract v 0) (.tmp 39) (.tuple #[.agg #[d0, d1, d2, d3, d4, d5], .int .i64 e]) (.agg #[d0, d1, d2, d3, d4, d5]) (fun _ => rfl) (hd 6 rfl) (by kernel_rfl) (hK _ (Mo.refl _))))
    · exact og_eq (.int .i64 e) rfl (fun f wf hq hd K hK => go_run rfl (wo_un (fun v => Instr.extract v 1) (.tmp 39) (.tuple #[.agg #[d0, d1, d2, d3, d4, d5], .int .i64 e]) (.int .i64 e) (fun _ => rfl) (hd 6 rfl) (by kernel_rfl) (hK _ (Mo.refl _))))
  intro kf8 w8 hq hR hne
  replace Q1 := Q1.mo hq
  replace Q2 := Q2.mo hq
  replace Q3 := Q3.mo hq
  replace Q4 := Q4.mo hq
  replace Q5 := Q5.mo hq
  replace M := M.trans hq
  clear hq hR hne
  refine wl_st 40 (.tmp 4) (.tmp 40) k3 0 #[d0, d1, d2, d3, d4, d5] [.bool false, .int .u64 0, .int .u64 0, .int .u64 0, .int .u64 0, .int .i64 0] [d0, d1, d2, d3, d4, d5] Q3 rfl rfl rfl rfl rfl sz40 hd rfl rfl ?_
  intro w9 hS Qn
  replace Q3 := Qn
  clear Qn
  replace Q1 := hS.other _ _ ne_k1_k3 Q1
  replace Q2 := hS.other _ _ ne_k2_k3 Q2
  replace Q4 := hS.other _ _ ne_k3_k4.symm Q4
  replace Q5 := hS.other _ _ ne_k3_k5.symm Q5
  replace M := hS.mo _ N_k3 M
  clear hS
  refine wl_mv (.tmp 41) (.int .i64 e) (fun _ => rfl) rfl rfl ?_
  refine w_nil ?_
  refine xn_then ?_
  refine w_ret ?_
  refine xr_then ?_
  exact w_ret2 _ _ (.agg #[d0, d1, d2, d3, d4, d5]) (.int .i64 e) rfl ⟨k3, rfl, (run_row Q3 40 0 6 [d0, d1, d2, d3, d4, d5] rfl Try.underlying40 rfl sz40)⟩ rfl ⟨rfl, M⟩
theorem add_lt (bu bv : Bool) (n m s t S : Int) (i j : Nat) (d0 d1 d2 d3 d4 d5 : Value) (e : Int) (w : World) (hn0 : 0 ≤ n) (hn : n < MM) (hm0 : 0 ≤ m) (hm : m < MM) (h1 : ck bu n s = 0) (h2 : ck bv m t = 0) (hS : max s t = S) (hi : S - s = (i : Int)) (hj : S - t = (j : Int)) (hi7 : i ≤ 18) (hj7 : j ≤ 18) (hb : (bu == bv) = false) (hc : decide (cm (n * 10 ^ i) (m * 10 ^ j) < 0) = true)
    (hd : [d0, d1, d2, d3, d4, d5].all (·.oneCell') = true)
    (hfit : ∀ w, Calls Try.prog 77 #[.bool bv, dx (m * 10 ^ j - n * 10 ^ i), .int .i64 S] w fun e' w' => e' = .returned (.tuple #[.agg #[d0, d1, d2, d3, d4, d5], .int .i64 e]) ∧ Mo w w') :
    Calls Try.prog 35 #[dc bu n s, dc bv m t] w fun e' w' => e' = .returned (.tuple #[.agg #[d0, d1, d2, d3, d4, d5], .int .i64 e]) ∧ Mo w w' := by
  have bX := lifted_bd hn0 hn (i := i) (by omega)
  have bY := lifted_bd hm0 hm (i := j) (by omega)
  refine w_enter 64 Try.func35 Try.ntmps35 rfl rfl ?_
  have M : Mo w w := Mo.refl _
  refine w_seq ?_
  refine w_reg ?_
  refine wl_box 40 (.tmp 0) (.agg #[.bool bu, .int .u64 (l0 (n)), .int .u64 (l1 (n)), .int .u64 (l2 (n)), .int .u64 (l3 (n)), .int .i64 (s)]) (#[.bool bu, .int .u64 (l0 (n)), .int .u64 (l1 (n)), .int .u64 (l2 (n)), .int .u64 (l3 (n)), .int .i64 (s)]) rfl rfl (fun _ => by kernel_rfl) rfl ?_
  intro k1 w1 hk hz hq Q1
  have N_k1 : w.heap.size ≤ k1 := by have := M.size; omega
  replace M := M.trans hq
  clear hk hz hq
  refine wl_box 40 (.tmp 1) (.agg #[.bool bv, .int .u64 (l0 (m)), .int .u64 (l1 (m)), .int .u64 (l2 (m)), .int .u64 (l3 (m)), .int .i64 (t)]) (#[.bool bv, .int .u64 (l0 (m)), .int .u64 (l1 (m)), .int .u64 (l2 (m)), .int .u64 (l3 (m)), .int .i64 (t)]) rfl rfl (fun _ => by kernel_rfl) rfl ?_
  intro k2 w2 hk hz hq Q2
  have ne_k1_k2 : k1 ≠ k2 := by have := Q1.lt; omega
  have N_k2 : w.heap.size ≤ k2 := by have := M.size; omega
  replace Q1 := Q1.mo hq
  replace M := M.trans hq
  clear hk hz hq
  refine wl_alloc 40 #[.bool false, .int .u64 0, .int .u64 0, .int .u64 0, .int .u64 0, .int .i64 0] rfl (fun _ => by kernel_rfl) rfl ?_
  intro k3 w3 hk hz hq Q3
  have ne_k1_k3 : k1 ≠ k3 := by have := Q1.lt; omega
  have ne_k2_k3 : k2 ≠ k3 := by have := Q2.lt; omega
  have N_k3 : w.heap.size ≤ k3 := by have := M.size; omega
  replace Q1 := Q1.mo hq
  replace Q2 := Q2.mo hq
  replace M := M.trans hq
  clear hk hz hq
  refine wl_mv (.const (.int .i64 (0))) (.int .i64 (0)) (fun _ => rfl) rfl rfl ?_
  refine w_nil ?_
  refine xn_then ?_
  refine w_seq ?_
  refine w_seq ?_
  refine w_reg ?_
  refine wl_load 40 (.tmp 2) (pt k1 0) (.agg #[.bool bu, .int .u64 (l0 (n)), .int .u64 (l1 (n)), .int .u64 (l2 (n)), .int .u64 (l3 (n)), .int .i64 (s)]) rfl rfl (run_row Q1 40 0 6 [.bool bu, .int .u64 (l0 (n)), .int .u64 (l1 (n)), .int .u64 (l2 (n)), .int .u64 (l3 (n)), .int .i64 (s)] rfl Try.underlying40 rfl sz40) rfl ?_
  refine wl_load 40 (.tmp 3) (pt k2 0) (.agg #[.bool bv, .int .u64 (l0 (m)), .int .u64 (l1 (m)), .int .u64 (l2 (m)), .int .u64 (l3 (m)), .int .i64 (t)]) rfl rfl (run_row Q2 40 0 6 [.bool bv, .int .u64 (l0 (m)), .int .u64 (l1 (m)), .int .u64 (l2 (m)), .int .u64 (l3 (m)), .int .i64 (t)] rfl Try.underlying40 rfl sz40) rfl ?_
  refine wl_call 75 [(.tmp 10), (.tmp 11)] _ [.agg #[.bool bu, .int .u64 (l0 (n)), .int .u64 (l1 (n)), .int .u64 (l2 (n)), .int .u64 (l3 (n)), .int .i64 (s)], .agg #[.bool bv, .int .u64 (l0 (m)), .int .u64 (l1 (m)), .int .u64 (l2 (m)), .int .u64 (l3 (m)), .int .i64 (t)]] (.int .i64 (0)) rfl rfl (fun _ _ => by kernel_rfl) (both_ok bu n s bv m t _ hn0 hn hm0 hm h1 h2) rfl ?_
  intro w4 hq
  replace Q1 := Q1.mo hq
  replace Q2 := Q2.mo hq
  replace Q3 := Q3.mo hq
  replace M := M.trans hq
  clear hq
  refine wl_mv (.tmp 12) (.int .i64 (0)) (fun _ => rfl) rfl rfl ?_
  refine w_nil ?_
  refine xn_then ?_
  refine w_seq ?_
  refine w_reg ?_
  refine wl_mv (.tmp 6) (.int .i64 (0)) (fun _ => rfl) rfl rfl ?_
  refine wl_bin (fun x y => do eqGuard .neq 32 (.tmp 13) (.const (.int .i64 (0))) x y; binOp .neq 32 x y) (.tmp 13) (.const (.int .i64 (0))) (.int .i64 (0)) (.int .i64 (0)) (.bool false) (fun _ => rfl) rfl rfl (by kernel_rfl) rfl ?_
  refine w_nil ?_
  refine xn_then ?_
  refine w_condF rfl ?_
  refine w_skip ?_
  refine xn_then ?_
  refine w_seq ?_
  refine w_reg ?_
  refine wl_un (fun v => Instr.fieldAt 40 v 2) (.tmp 2) (pt k1 0) (pt k1 5) (fun _ => rfl) rfl (by kernel_rfl) rfl ?_
  refine wl_load 3 (.tmp 17) (pt k1 5) (.int .i64 (s)) rfl rfl (run_one Q1 3 5 rfl Try.underlying3 rfl) rfl ?_
  refine wl_un (fun v => Instr.fieldAt 40 v 2) (.tmp 3) (pt k2 0) (pt k2 5) (fun _ => rfl) rfl (by kernel_rfl) rfl ?_
  refine wl_load 3 (.tmp 19) (pt k2 5) (.int .i64 (t)) rfl rfl (run_one Q2 3 5 rfl Try.underlying3 rfl) rfl ?_
  refine wl_val (.int .i64 (S)) (by rw [← hS]; exact max_run _ _ _ _ _ rfl rfl _ _ _ _ _ _) rfl ?_
  refine wl_mv (.tmp 21) (.int .i64 (S)) (fun _ => rfl) rfl rfl ?_
  refine w_nil ?_
  refine xn_then ?_
  refine w_seq ?_
  refine w_any 8 [.inl (.agg #[.bool bu, .int .u64 (l0 (n)), .int .u64 (l1 (n)), .int .u64 (l2 (n)), .int .u64 (l3 (n)), .int .i64 (s)]), .inl (.int .i64 (S)), .inl (.agg (dwa (n * 10 ^ i))), .inl (.agg #[.bool bv, .int .u64 (l0 (m)), .int .u64 (l1 (m)), .int .u64 (l2 (m)), .int .u64 (l3 (m)), .int .i64 (t)]), .inl (.int .i64 (S)), .inl (.agg (dwa (m * 10 ^ j))), .inr [.int .u64 0, .int .u64 0, .int .u64 0, .int .u64 0, .int .u64 0, .int .u64 0, .int .u64 0, .int .u64 0], .inr [.int .u64 0, .int .u64 0, .int .u64 0, .int .u64 0, .int .u64 0, .int .u64 0, .int .u64 0, .int .u64 0]] [] (by kernel_rfl) (by kernel_rfl) (by kernel_rfl) (by kernel_rfl) rfl (by kernel_rfl) (by kernel_rfl) late_nil ?_ ?_ ?_
  · exact Ds.start (by kernel_rfl)
  · refine ea_cons ?_ (ea_cons ?_ (ea_cons ?_ (ea_cons ?_ (ea_cons ?_ (ea_cons ?_ (ea_cons ?_ (ea_cons ?_ (ea_nil))))))))
    · exact og_eq (.agg #[.bool bu, .int .u64 (l0 (n)), .int .u64 (l1 (n)), .int .u64 (l2 (n)), .int .u64 (l3 (n)), .int .i64 (s)]) rfl (fun f wf hq hd K hK => have Q1 := Q1.mo hq; go_run rfl (wo_load 40 (.tmp 2) (pt k1 0) (.agg #[.bool bu, .int .u64 (l0 (n)), .int .u64 (l1 (n)), .int .u64 (l2 (n)), .int .u64 (l3 (n)), .int .i64 (s)]) rfl rfl (run_row Q1 40 0 6 [.bool bu, .int .u64 (l0 (n)), .int .u64 (l1 (n)), .int .u64 (l2 (n)), .int .u64 (l3 (n)), .int .i64 (s)] rfl Try.underlying40 rfl sz40) (hK _ (Mo.refl _))))
    · exact og_eq (.int .i64 (S)) rfl (fun f wf hq hd K hK => go_run rfl (wo_mv (.tmp 7) (.int .i64 (S)) (fun _ => rfl) rfl (hK _ (Mo.refl _))))
    · exact og_eq (.agg (dwa (n * 10 ^ i))) rfl (fun f wf hq hd K hK => go_run rfl (wo_call 76 [(.tmp 22), (.tmp 23)] _ [.agg #[.bool bu, .int .u64 (l0 (n)), .int .u64 (l1 (n)), .int .u64 (l2 (n)), .int .u64 (l3 (n)), .int .i64 (s)], .int .i64 (S)] (.agg (dwa (n * 10 ^ i))) rfl (li2 (hd 0 rfl) (hd 1 rfl)) (fun _ _ => by kernel_rfl) (lift_x bu n s S i _ hn0 hn hi (by omega)) hK))
    · exact og_eq (.agg #[.bool bv, .int .u64 (l0 (m)), .int .u64 (l1 (m)), .int .u64 (l2 (m)), .int .u64 (l3 (m)), .int .i64 (t)]) rfl (fun f wf hq hd K hK => have Q2 := Q2.mo hq; go_run rfl (wo_load 40 (.tmp 3) (pt k2 0) (.agg #[.bool bv, .int .u64 (l0 (m)), .int .u64 (l1 (m)), .int .u64 (l2 (m)), .int .u64 (l3 (m)), .int .i64 (t)]) rfl rfl (run_row Q2 40 0 6 [.bool bv, .int .u64 (l0 (m)), .int .u64 (l1 (m)), .int .u64 (l2 (m)), .int .u64 (l3 (m)), .int .i64 (t)] rfl Try.underlying40 rfl sz40) (hK _ (Mo.refl _))))
    · exact og_eq (.int .i64 (S)) rfl (fun f wf hq hd K hK => go_run rfl (wo_mv (.tmp 7) (.int .i64 (S)) (fun _ => rfl) rfl (hK _ (Mo.refl _))))
    · exact og_eq (.agg (dwa (m * 10 ^ j))) rfl (fun f wf hq hd K hK => go_run rfl (wo_call 76 [(.tmp 25), (.tmp 26)] _ [.agg #[.bool bv, .int .u64 (l0 (m)), .int .u64 (l1 (m)), .int .u64 (l2 (m)), .int .u64 (l3 (m)), .int .i64 (t)], .int .i64 (S)] (.agg (dwa (m * 10 ^ j))) rfl (li2 (hd 3 rfl) (hd 4 rfl)) (fun _ _ => by kernel_rfl) (lift_x bv m t S j _ hm0 hm hj (by omega)) hK))
    · exact og_new [.int .u64 0, .int .u64 0, .int .u64 0, .int .u64 0, .int .u64 0, .int .u64 0, .int .u64 0, .int .u64 0] rfl (fun f wf hq hd K hK => go_run rfl (wo_alloc 81 #[.int .u64 0, .int .u64 0, .int .u64 0, .int .u64 0, .int .u64 0, .int .u64 0, .int .u64 0, .int .u64 0] rfl (fun _ => by kernel_rfl) hK))
    · exact og_new [.int .u64 0, .int .u64 0, .int .u64 0, .int .u64 0, .int .u64 0, .int .u64 0, .int .u64 0, .int .u64 0] rfl (fun f wf hq hd K hK => go_run rfl (wo_alloc 81 #[.int .u64 0, .int .u64 0, .int .u64 0, .int .u64 0, .int .u64 0, .int .u64 0, .int .u64 0, .int .u64 0] rfl (fun _ => by kernel_rfl) hK))
  intro kf5 w5 hq hR hne
  obtain ⟨N_k4, Q4⟩ := hR 6 _ rfl rfl
  obtain ⟨N_k5, Q5⟩ := hR 7 _ rfl rfl
  have ne_k1_k4 : k1 ≠ (kf5 6) := by have := Q1.lt; omega
  have ne_k2_k4 : k2 ≠ (kf5 6) := by have := Q2.lt; omega
  have ne_k3_k4 : k3 ≠ (kf5 6) := by have := Q3.lt; omega
  have ne_k4_k5 := hne 6 7 rfl rfl rfl rfl (by decide)
  replace N_k4 := Nat.le_trans M.size N_k4
  have ne_k1_k5 : k1 ≠ (kf5 7) := by have := Q1.lt; omega
  have ne_k2_k5 : k2 ≠ (kf5 7) := by have := Q2.lt; omega
  have ne_k3_k5 : k3 ≠ (kf5 7) := by have := Q3.lt; omega
  replace N_k5 := Nat.le_trans M.size N_k5
  replace Q1 := Q1.mo hq
  replace Q2 := Q2.mo hq
  replace Q3 := Q3.mo hq
  replace M := M.trans hq
  clear hq hR hne
  refine wl_st 81 (.tmp 8) (.tmp 24) (kf5 6) 0 (dwa (n * 10 ^ i)) [.int .u64 0, .int .u64 0, .int .u64 0, .int .u64 0, .int .u64 0, .int .u64 0, .int .u64 0, .int .u64 0] (dwa (n * 10 ^ i)).toList Q4 rfl rfl rfl rfl rfl sz81 rfl rfl rfl ?_
  intro w6 hS Qn
  replace Q4 := Qn
  clear Qn
  replace Q1 := hS.other _ _ ne_k1_k4 Q1
  replace Q2 := hS.other _ _ ne_k2_k4 Q2
  replace Q3 := hS.other _ _ ne_k3_k4 Q3
  replace Q5 := hS.other _ _ ne_k4_k5.symm Q5
  replace M := hS.mo _ N_k4 M
  clear hS
  refine wl_st 81 (.tmp 9) (.tmp 27) (kf5 7) 0 (dwa (m * 10 ^ j)) [.int .u64 0, .int .u64 0, .int .u64 0, .int .u64 0, .int .u64 0, .int .u64 0, .int .u64 0, .int .u64 0] (dwa (m * 10 ^ j)).toList Q5 rfl rfl rfl rfl rfl sz81 rfl rfl rfl ?_
  intro w7 hS Qn
  replace Q5 := Qn
  clear Qn
  replace Q1 := hS.other _ _ ne_k1_k5 Q1
  replace Q2 := hS.other _ _ ne_k2_k5 Q2
  replace Q3 := hS.other _ _ ne_k3_k5 Q3
  replace Q4 := hS.other _ _ ne_k4_k5 Q4
  replace M := hS.mo _ N_k5 M
  clear hS
  refine w_nil ?_
  refine xn_then ?_
  refine w_seq ?_
  refine w_seq ?_
  refine w_reg ?_
  refine wl_un (fun v => Instr.fieldAt 40 v 0) (.tmp 2) (pt k1 0) (pt k1 0) (fun _ => rfl) rfl (by kernel_rfl) rfl ?_
  refine wl_load 4 (.tmp 28) (pt k1 0) (.bool bu) rfl rfl (run_one Q1 4 0 rfl Try.underlying4 rfl) rfl ?_
  refine wl_un (fun v => Instr.fieldAt 40 v 0) (.tmp 3) (pt k2 0) (pt k2 0) (fun _ => rfl) rfl (by kernel_rfl) rfl ?_
  refine wl_load 4 (.tmp 30) (pt k2 0) (.bool bv) rfl rfl (run_one Q2 4 0 rfl Try.underlying4 rfl) rfl ?_
  refine wl_bin (fun x y => do eqGuard .eql 4 (.tmp 29) (.tmp 31) x y; binOp .eql 4 x y) (.tmp 29) (.tmp 31) (.bool bu) (.bool bv) (.bool false) (fun _ => rfl) rfl rfl (eqb_run hb _ _ _) rfl ?_
  refine w_nil ?_
  refine xn_then ?_
  refine w_condF rfl ?_
  refine w_skip ?_
  refine xn_then ?_
  refine w_seq ?_
  refine w_seq ?_
  refine w_reg ?_
  refine wl_load 81 (.tmp 8) (pt (kf5 6) 0) (.agg (dwa (n * 10 ^ i))) rfl rfl (run_row Q4 81 0 8 (dwa (n * 10 ^ i)).toList rfl Try.underlying81 rfl sz81) rfl ?_
  refine wl_load 81 (.tmp 9) (pt (kf5 7) 0) (.agg (dwa (m * 10 ^ j))) rfl rfl (run_row Q5 81 0 8 (dwa (m * 10 ^ j)).toList rfl Try.underlying81 rfl sz81) rfl ?_
  refine wl_call 79 [(.tmp 42), (.tmp 43)] _ [.agg (dwa (n * 10 ^ i)), .agg (dwa (m * 10 ^ j))] (.int .i64 (cm (n * 10 ^ i) (m * 10 ^ j))) rfl rfl (fun _ _ => by kernel_rfl) (cmpDouble_x (n * 10 ^ i) (m * 10 ^ j) _ bX.1 bX.2 bY.1 bY.2) rfl ?_
  intro w8 hq
  replace Q1 := Q1.mo hq
  replace Q2 := Q2.mo hq
  replace Q3 := Q3.mo hq
  replace Q4 := Q4.mo hq
  replace Q5 := Q5.mo hq
  replace M := M.trans hq
  clear hq
  refine wl_bin (fun x y => do eqGuard .lss 3 (.tmp 44) (.const (.int .i64 (0))) x y; binOp .lss 3 x y) (.tmp 44) (.const (.int .i64 (0))) (.int .i64 (cm (n * 10 ^ i) (m * 10 ^ j))) (.int .i64 (0)) (.bool true) (fun _ => rfl) rfl rfl (lss_run hc _ _ _) rfl ?_
  refine w_nil ?_
  refine xn_then ?_
  refine w_condT rfl ?_
  refine w_seq ?_
  refine w_any 9 [.inl (pt k2 0), .inl (.bool bv), .inl (.agg (dwa (m * 10 ^ j))), .inl (.agg (dwa (n * 10 ^ i))), .inl (.agg (dwa (m * 10 ^ j - n * 10 ^ i))), .inl (.int .i64 (S)), .inl (.tuple #[.agg #[d0, d1, d2, d3, d4, d5], .int .i64 e]), .inl (.agg #[d0, d1, d2, d3, d4, d5]), .inl (.int .i64 e)] [] (by kernel_rfl) (by kernel_rfl) (by kernel_rfl) (by kernel_rfl) rfl (by kernel_rfl) (by kernel_rfl) late_nil ?_ ?_ ?_
  · exact Ds.none rfl
  · refine ea_cons ?_ (ea_cons ?_ (ea_cons ?_ (ea_cons ?_ (ea_cons ?_ (ea_cons ?_ (ea_cons ?_ (ea_cons ?_ (ea_cons ?_ (ea_nil)))))))))
    · exact og_eq (pt k2 0) rfl (fun f wf hq hd K hK => go_run rfl (wo_un (fun v => Instr.fieldAt 40 v 0) (.tmp 3) (pt k2 0) (pt k2 0) (fun _ => rfl) rfl (by kernel_rfl) (hK _ (Mo.refl _))))
    · exact og_eq (.bool bv) rfl (fun f wf hq hd K hK => have Q2 := Q2.mo hq; go_run rfl (wo_load 4 (.tmp 46) (pt k2 0) (.bool bv) rfl (hd 0 rfl) (run_one Q2 4 0 rfl Try.underlying4 rfl) (hK _ (Mo.refl _))))
    · exact og_eq (.agg (dwa (m * 10 ^ j))) rfl (fun f wf hq hd K hK => have Q5 := Q5.mo hq; go_run rfl (wo_load 81 (.tmp 9) (pt (kf5 7) 0) (.agg (dwa (m * 10 ^ j))) rfl rfl (run_row Q5 81 0 8 (dwa (m * 10 ^ j)).toList rfl Try.underlying81 rfl sz81) (hK _ (Mo.refl _))))
    · exact og_eq (.agg (dwa (n * 10 ^ i))) rfl (fun f wf hq hd K hK => have Q4 := Q4.mo hq; go_run rfl (wo_load 81 (.tmp 8) (pt (kf5 6) 0) (.agg (dwa (n * 10 ^ i))) rfl rfl (run_row Q4 81 0 8 (dwa (n * 10 ^ i)).toList rfl Try.underlying81 rfl sz81) (hK _ (Mo.refl _))))
    · exact og_eq (.agg (dwa (m * 10 ^ j - n * 10 ^ i))) rfl (fun f wf hq hd K hK => go_run rfl (wo_call 80 [(.tmp 48), (.tmp 49)] _ [.agg (dwa (m * 10 ^ j)), .agg (dwa (n * 10 ^ i))] (.agg (dwa (m * 10 ^ j - n * 10 ^ i))) rfl (li2 (hd 2 rfl) (hd 3 rfl)) (fun _ _ => by kernel_rfl) (subDouble_x (m * 10 ^ j) (n * 10 ^ i) _ bY.1 bY.2 bX.1 bX.2) hK))
    · exact og_eq (.int .i64 (S)) rfl (fun f wf hq hd K hK => go_run rfl (wo_mv (.tmp 7) (.int .i64 (S)) (fun _ => rfl) rfl (hK _ (Mo.refl _))))
    · exact og_eq (.tuple #[.agg #[d0, d1, d2, d3, d4, d5], .int .i64 e]) rfl (fun f wf hq hd K hK => go_run rfl (wo_call 77 [(.tmp 47), (.tmp 50), (.tmp 51)] _ [.bool bv, .agg (dwa (m * 10 ^ j - n * 10 ^ i)), .int .i64 (S)] (.tuple #[.agg #[d0, d1, d2, d3, d4, d5], .int .i64 e]) rfl (li3 (hd 1 rfl) (hd 4 rfl) (hd 5 rfl)) (fun _ _ => by kernel_rfl) (hfit _) hK))
    · exact og_eq (.agg #[d0, d1, d2, d3, d4, d5]) rfl (fun f wf hq hd K hK => go_run rfl (wo_un (fun v => Instr.extract v 0) (.tmp 52) (.tuple #[.agg #[d0, d1, d2, d3, d4, d5], .int .i64 e]) (.agg #[d0, d1, d2, d3, d4, d5]) (fun _ => rfl) (hd 6 rfl) (by kernel_rfl) (hK _ (Mo.refl _))))
    · exact og_eq (.int .i64 e) rfl (fun f wf hq hd K hK => go_run rfl (wo_un (fun v => Instr.extract v 1) (.tmp 52) (.tuple #[.agg #[d0, d1, d2, d3, d4, d5], .int .i64 e]) (.int .i64 e) (fun _ => rfl) (hd 6 rfl) (by kernel_rfl) (hK _ (Mo.refl _))))
  intro kf9 w9 hq hR hne
  replace Q1 := Q1.mo hq
  replace Q2 := Q2.mo hq
  replace Q3 := Q3.mo hq
  replace Q4 := Q4.mo hq
  replace Q5 := Q5.mo hq
  replace M := M.trans hq
  clear hq hR hne
  refine wl_st 40 (.tmp 4) (.tmp 53) k3 0 #[d0, d1, d2, d3, d4, d5] [.bool false, .int .u64 0, .int .u64 0, .int .u64 0, .int .u64 0, .int .i64 0] [d0, d1, d2, d3, d4, d5] Q3 rfl rfl rfl rfl rfl sz40 hd rfl rfl ?_
  intro w10 hS Qn
  replace Q3 := Qn
  clear Qn
  replace Q1 := hS.other _ _ ne_k1_k3 Q1
  replace Q2 := hS.other _ _ ne_k2_k3 Q2
  replace Q4 := hS.other _ _ ne_k3_k4.symm Q4
  replace Q5 := hS.other _ _ ne_k3_k5.symm Q5
  replace M := hS.mo _ N_k3 M
  clear hS
  refine wl_mv (.tmp 54) (.int .i64 e) (fun _ => rfl) rfl rfl ?_
  refine w_nil ?_
  refine xn_then ?_
  refine w_ret ?_
  refine xr_then ?_
  exact w_ret2 _ _ (.agg #[d0, d1, d2, d3, d4, d5]) (.int .i64 e) rfl ⟨k3, rfl, (run_row Q3 40 0 6 [d0, d1, d2, d3, d4, d5] rfl Try.underlying40 rfl sz40)⟩ rfl ⟨rfl, M⟩
theorem add_ge (bu bv : Bool) (n m s t S : Int) (i j : Nat) (d0 d1 d2 d3 d4 d5 : Value) (e : Int) (w : World) (hn0 : 0 ≤ n) (hn : n < MM) (hm0 : 0 ≤ m) (hm : m < MM) (h1 : ck bu n s = 0) (h2 : ck bv m t = 0) (hS : max s t = S) (hi : S - s = (i : Int)) (hj : S - t = (j : Int)) (hi7 : i ≤ 18) (hj7 : j ≤ 18) (hb : (bu == bv) = false) (hc : decide (cm (n * 10 ^ i) (m * 10 ^ j) < 0) = false)
    (hd : [d0, d1, d2, d3, d4, d5].all (·.oneCell') = true)
    (hfit : ∀ w, Calls Try.prog 77 #[.bool bu, dx (n * 10 ^ i - m * 10 ^ j), .int .i64 S] w fun e' w' => e' = .returned (.tuple #[.agg #[d0, d1, d2, d3, d4, d5], .int .i64 e]) ∧ Mo w w') :
    Calls Try.prog 35 #[dc bu n s, dc bv m t] w fun e' w' => e' = .returned (.tuple #[.agg #[d0, d1, d2, d3, d4, d5], .int .i64 e]) ∧ Mo w w' := by
  have bX := lifted_bd hn0 hn (i := i) (by omega)
  have bY := lifted_bd hm0 hm (i := j) (by omega)
  refine w_enter 64 Try.func35 Try.ntmps35 rfl rfl ?_
  have M : Mo w w := Mo.refl _
  refine w_seq ?_
  refine w_reg ?_
  refine wl_box 40 (.tmp 0) (.agg #[.bool bu, .int .u64 (l0 (n)), .int .u64 (l1 (n)), .int .u64 (l2 (n)), .int .u64 (l3 (n)), .int .i64 (s)]) (#[.bool bu, .int .u64 (l0 (n)), .int .u64 (l1 (n)), .int .u64 (l2 (n)), .int .u64 (l3 (n)), .int .i64 (s)]) rfl rfl (fun _ => by kernel_rfl) rfl ?_
  intro k1 w1 hk hz hq Q1
  have N_k1 : w.heap.size ≤ k1 := by have := M.size; omega
  replace M := M.trans hq
  clear hk hz hq
  refine wl_box 40 (.tmp 1) (.agg #[.bool bv, .int .u64 (l0 (m)), .int .u64 (l1 (m)), .int .u64 (l2 (m)), .int .u64 (l3 (m)), .int .i64 (t)]) (#[.bool bv, .int .u64 (l0 (m)), .int .u64 (l1 (m)), .int .u64 (l2 (m)), .int .u64 (l3 (m)), .int .i64 (t)]) rfl rfl (fun _ => by kernel_rfl) rfl ?_
  intro k2 w2 hk hz hq Q2
  have ne_k1_k2 : k1 ≠ k2 := by have := Q1.lt; omega
  have N_k2 : w.heap.size ≤ k2 := by have := M.size; omega
  replace Q1 := Q1.mo hq
  replace M := M.trans hq
  clear hk hz hq
  refine wl_alloc 40 #[.bool false, .int .u64 0, .int .u64 0, .int .u64 0, .int .u64 0, .int .i64 0] rfl (fun _ => by kernel_rfl) rfl ?_
  intro k3 w3 hk hz hq Q3
  have ne_k1_k3 : k1 ≠ k3 := by have := Q1.lt; omega
  have ne_k2_k3 : k2 ≠ k3 := by have := Q2.lt; omega
  have N_k3 : w.heap.size ≤ k3 := by have := M.size; omega
  replace Q1 := Q1.mo hq
  replace Q2 := Q2.mo hq
  replace M := M.trans hq
  clear hk hz hq
  refine wl_mv (.const (.int .i64 (0))) (.int .i64 (0)) (fun _ => rfl) rfl rfl ?_
  refine w_nil ?_
  refine xn_then ?_
  refine w_seq ?_
  refine w_seq ?_
  refine w_reg ?_
  refine wl_load 40 (.tmp 2) (pt k1 0) (.agg #[.bool bu, .int .u64 (l0 (n)), .int .u64 (l1 (n)), .int .u64 (l2 (n)), .int .u64 (l3 (n)), .int .i64 (s)]) rfl rfl (run_row Q1 40 0 6 [.bool bu, .int .u64 (l0 (n)), .int .u64 (l1 (n)), .int .u64 (l2 (n)), .int .u64 (l3 (n)), .int .i64 (s)] rfl Try.underlying40 rfl sz40) rfl ?_
  refine wl_load 40 (.tmp 3) (pt k2 0) (.agg #[.bool bv, .int .u64 (l0 (m)), .int .u64 (l1 (m)), .int .u64 (l2 (m)), .int .u64 (l3 (m)), .int .i64 (t)]) rfl rfl (run_row Q2 40 0 6 [.bool bv, .int .u64 (l0 (m)), .int .u64 (l1 (m)), .int .u64 (l2 (m)), .int .u64 (l3 (m)), .int .i64 (t)] rfl Try.underlying40 rfl sz40) rfl ?_
  refine wl_call 75 [(.tmp 10), (.tmp 11)] _ [.agg #[.bool bu, .int .u64 (l0 (n)), .int .u64 (l1 (n)), .int .u64 (l2 (n)), .int .u64 (l3 (n)), .int .i64 (s)], .agg #[.bool bv, .int .u64 (l0 (m)), .int .u64 (l1 (m)), .int .u64 (l2 (m)), .int .u64 (l3 (m)), .int .i64 (t)]] (.int .i64 (0)) rfl rfl (fun _ _ => by kernel_rfl) (both_ok bu n s bv m t _ hn0 hn hm0 hm h1 h2) rfl ?_
  intro w4 hq
  replace Q1 := Q1.mo hq
  replace Q2 := Q2.mo hq
  replace Q3 := Q3.mo hq
  replace M := M.trans hq
  clear hq
  refine wl_mv (.tmp 12) (.int .i64 (0)) (fun _ => rfl) rfl rfl ?_
  refine w_nil ?_
  refine xn_then ?_
  refine w_seq ?_
  refine w_reg ?_
  refine wl_mv (.tmp 6) (.int .i64 (0)) (fun _ => rfl) rfl rfl ?_
  refine wl_bin (fun x y => do eqGuard .neq 32 (.tmp 13) (.const (.int .i64 (0))) x y; binOp .neq 32 x y) (.tmp 13) (.const (.int .i64 (0))) (.int .i64 (0)) (.int .i64 (0)) (.bool false) (fun _ => rfl) rfl rfl (by kernel_rfl) rfl ?_
  refine w_nil ?_
  refine xn_then ?_
  refine w_condF rfl ?_
  refine w_skip ?_
  refine xn_then ?_
  refine w_seq ?_
  refine w_reg ?_
  refine wl_un (fun v => Instr.fieldAt 40 v 2) (.tmp 2) (pt k1 0) (pt k1 5) (fun _ => rfl) rfl (by kernel_rfl) rfl ?_
  refine wl_load 3 (.tmp 17) (pt k1 5) (.int .i64 (s)) rfl rfl (run_one Q1 3 5 rfl Try.underlying3 rfl) rfl ?_
  refine wl_un (fun v => Instr.fieldAt 40 v 2) (.tmp 3) (pt k2 0) (pt k2 5) (fun _ => rfl) rfl (by kernel_rfl) rfl ?_
  refine wl_load 3 (.tmp 19) (pt k2 5) (.int .i64 (t)) rfl rfl (run_one Q2 3 5 rfl Try.underlying3 rfl) rfl ?_
  refine wl_val (.int .i64 (S)) (by rw [← hS]; exact max_run _ _ _ _ _ rfl rfl _ _ _ _ _ _) rfl ?_
  refine wl_mv (.tmp 21) (.int .i64 (S)) (fun _ => rfl) rfl rfl ?_
  refine w_nil ?_
  refine xn_then ?_
  refine w_seq ?_
  refine w_any 8 [.inl (.agg #[.bool bu, .int .u64 (l0 (n)), .int .u64 (l1 (n)), .int .u64 (l2 (n)), .int .u64 (l3 (n)), .int .i64 (s)]), .inl (.int .i64 (S)), .inl (.agg (dwa (n * 10 ^ i))), .inl (.agg #[.bool bv, .int .u64 (l0 (m)), .int .u64 (l1 (m)), .int .u64 (l2 (m)), .int .u64 (l3 (m)), .int .i64 (t)]), .inl (.int .i64 (S)), .inl (.agg (dwa (m * 10 ^ j))), .inr [.int .u64 0, .int .u64 0, .int .u64 0, .int .u64 0, .int .u64 0, .int .u64 0, .int .u64 0, .int .u64 0], .inr [.int .u64 0, .int .u64 0, .int .u64 0, .int .u64 0, .int .u64 0, .int .u64 0, .int .u64 0, .int .u64 0]] [] (by kernel_rfl) (by kernel_rfl) (by kernel_rfl) (by kernel_rfl) rfl (by kernel_rfl) (by kernel_rfl) late_nil ?_ ?_ ?_
  · exact Ds.start (by kernel_rfl)
  · refine ea_cons ?_ (ea_cons ?_ (ea_cons ?_ (ea_cons ?_ (ea_cons ?_ (ea_cons ?_ (ea_cons ?_ (ea_cons ?_ (ea_nil))))))))
    · exact og_eq (.agg #[.bool bu, .int .u64 (l0 (n)), .int .u64 (l1 (n)), .int .u64 (l2 (n)), .int .u64 (l3 (n)), .int .i64 (s)]) rfl (fun f wf hq hd K hK => have Q1 := Q1.mo hq; go_run rfl (wo_load 40 (.tmp 2) (pt k1 0) (.agg #[.bool bu, .int .u64 (l0 (n)), .int .u64 (l1 (n)), .int .u64 (l2 (n)), .int .u64 (l3 (n)), .int .i64 (s)]) rfl rfl (run_row Q1 40 0 6 [.bool bu, .int .u64 (l0 (n)), .int .u64 (l1 (n)), .int .u64 (l2 (n)), .int .u64 (l3 (n)), .int .i64 (s)] rfl Try.underlying40 rfl sz40) (hK _ (Mo.refl _))))
    · exact og_eq (.int .i64 (S)) rfl (fun f wf hq hd K hK => go_run rfl (wo_mv (.tmp 7) (.int .i64 (S)) (fun _ => rfl) rfl (hK _ (Mo.refl _))))
    · exact og_eq (.agg (dwa (n * 10 ^ i))) rfl (fun f wf hq hd K hK => go_run rfl (wo_call 76 [(.tmp 22), (.tmp 23)] _ [.agg #[.bool bu, .int .u64 (l0 (n)), .int .u64 (l1 (n)), .int .u64 (l2 (n)), .int .u64 (l3 (n)), .int .i64 (s)], .int .i64 (S)] (.agg (dwa (n * 10 ^ i))) rfl (li2 (hd 0 rfl) (hd 1 rfl)) (fun _ _ => by kernel_rfl) (lift_x bu n s S i _ hn0 hn hi (by omega)) hK))
    · exact og_eq (.agg #[.bool bv, .int .u64 (l0 (m)), .int .u64 (l1 (m)), .int .u64 (l2 (m)), .int .u64 (l3 (m)), .int .i64 (t)]) rfl (fun f wf hq hd K hK => have Q2 := Q2.mo hq; go_run rfl (wo_load 40 (.tmp 3) (pt k2 0) (.agg #[.bool bv, .int .u64 (l0 (m)), .int .u64 (l1 (m)), .int .u64 (l2 (m)), .int .u64 (l3 (m)), .int .i64 (t)]) rfl rfl (run_row Q2 40 0 6 [.bool bv, .int .u64 (l0 (m)), .int .u64 (l1 (m)), .int .u64 (l2 (m)), .int .u64 (l3 (m)), .int .i64 (t)] rfl Try.underlying40 rfl sz40) (hK _ (Mo.refl _))))
    · exact og_eq (.int .i64 (S)) rfl (fun f wf hq hd K hK => go_run rfl (wo_mv (.tmp 7) (.int .i64 (S)) (fun _ => rfl) rfl (hK _ (Mo.refl _))))
    · exact og_eq (.agg (dwa (m * 10 ^ j))) rfl (fun f wf hq hd K hK => go_run rfl (wo_call 76 [(.tmp 25), (.tmp 26)] _ [.agg #[.bool bv, .int .u64 (l0 (m)), .int .u64 (l1 (m)), .int .u64 (l2 (m)), .int .u64 (l3 (m)), .int .i64 (t)], .int .i64 (S)] (.agg (dwa (m * 10 ^ j))) rfl (li2 (hd 3 rfl) (hd 4 rfl)) (fun _ _ => by kernel_rfl) (lift_x bv m t S j _ hm0 hm hj (by omega)) hK))
    · exact og_new [.int .u64 0, .int .u64 0, .int .u64 0, .int .u64 0, .int .u64 0, .int .u64 0, .int .u64 0, .int .u64 0] rfl (fun f wf hq hd K hK => go_run rfl (wo_alloc 81 #[.int .u64 0, .int .u64 0, .int .u64 0, .int .u64 0, .int .u64 0, .int .u64 0, .int .u64 0, .int .u64 0] rfl (fun _ => by kernel_rfl) hK))
    · exact og_new [.int .u64 0, .int .u64 0, .int .u64 0, .int .u64 0, .int .u64 0, .int .u64 0, .int .u64 0, .int .u64 0] rfl (fun f wf hq hd K hK => go_run rfl (wo_alloc 81 #[.int .u64 0, .int .u64 0, .int .u64 0, .int .u64 0, .int .u64 0, .int .u64 0, .int .u64 0, .int .u64 0] rfl (fun _ => by kernel_rfl) hK))
  intro kf5 w5 hq hR hne
  obtain ⟨N_k4, Q4⟩ := hR 6 _ rfl rfl
  obtain ⟨N_k5, Q5⟩ := hR 7 _ rfl rfl
  have ne_k1_k4 : k1 ≠ (kf5 6) := by have := Q1.lt; omega
  have ne_k2_k4 : k2 ≠ (kf5 6) := by have := Q2.lt; omega
  have ne_k3_k4 : k3 ≠ (kf5 6) := by have := Q3.lt; omega
  have ne_k4_k5 := hne 6 7 rfl rfl rfl rfl (by decide)
  replace N_k4 := Nat.le_trans M.size N_k4
  have ne_k1_k5 : k1 ≠ (kf5 7) := by have := Q1.lt; omega
  have ne_k2_k5 : k2 ≠ (kf5 7) := by have := Q2.lt; omega
  have ne_k3_k5 : k3 ≠ (kf5 7) := by have := Q3.lt; omega
  replace N_k5 := Nat.le_trans M.size N_k5
  replace Q1 := Q1.mo hq
  replace Q2 := Q2.mo hq
  replace Q3 := Q3.mo hq
  replace M := M.trans hq
  clear hq hR hne
  refine wl_st 81 (.tmp 8) (.tmp 24) (kf5 6) 0 (dwa (n * 10 ^ i)) [.int .u64 0, .int .u64 0, .int .u64 0, .int .u64 0, .int .u64 0, .int .u64 0, .int .u64 0, .int .u64 0] (dwa (n * 10 ^ i)).toList Q4 rfl rfl rfl rfl rfl sz81 rfl rfl rfl ?_
  intro w6 hS Qn
  replace Q4 := Qn
  clear Qn
  replace Q1 := hS.other _ _ ne_k1_k4 Q1
  replace Q2 := hS.other _ _ ne_k2_k4 Q2
  replace Q3 := hS.other _ _ ne_k3_k4 Q3
  replace Q5 := hS.other _ _ ne_k4_k5.symm Q5
  replace M := hS.mo _ N_k4 M
  clear hS
  refine wl_st 81 (.tmp 9) (.tmp 27) (kf5 7) 0 (dwa (m * 10 ^ j)) [.int .u64 0, .int .u64 0, .int .u64 0, .int .u64 0, .int .u64 0, .int .u64 0, .int .u64 0, .int .u64 0] (dwa (m * 10 ^ j)).toList Q5 rfl rfl rfl rfl rfl sz81 rfl rfl rfl ?_
  intro w7 hS Qn
  replace Q5 := Qn
  clear Qn
  replace Q1 := hS.other _ _ ne_k1_k5 Q1
  replace Q2 := hS.other _ _ ne_k2_k5 Q2
  replace Q3 := hS.other _ _ ne_k3_k5 Q3
  replace Q4 := hS.other _ _ ne_k4_k5 Q4
  replace M := hS.mo _ N_k5 M
  clear hS
  refine w_nil ?_
  refine xn_then ?_
  refine w_seq ?_
  refine w_seq ?_
  refine w_reg ?_
  refine wl_un (fun v => Instr.fieldAt 40 v 0) (.tmp 2) (pt k1 0) (pt k1 0) (fun _ => rfl) rfl (by kernel_rfl) rfl ?_
  refine wl_load 4 (.tmp 28) (pt k1 0) (.bool bu) rfl rfl (run_one Q1 4 0 rfl Try.underlying4 rfl) rfl ?_
  refine wl_un (fun v => Instr.fieldAt 40 v 0) (.tmp 3) (pt k2 0) (pt k2 0) (fun _ => rfl) rfl (by kernel_rfl) rfl ?_
  refine wl_load 4 (.tmp 30) (pt k2 0) (.bool bv) rfl rfl (run_one Q2 4 0 rfl Try.underlying4 rfl) rfl ?_
  refine wl_bin (fun x y => do eqGuard .eql 4 (.tmp 29) (.tmp 31) x y; binOp .eql 4 x y) (.tmp 29) (.tmp 31) (.bool bu) (.bool bv) (.bool false) (fun _ => rfl) rfl rfl (eqb_run hb _ _ _) rfl ?_
  refine w_nil ?_
  refine xn_then ?_
  refine w_condF rfl ?_
  refine w_skip ?_
  refine xn_then ?_
  refine w_seq ?_
  refine w_seq ?_
  refine w_reg ?_
  refine wl_load 81 (.tmp 8) (pt (kf5 6) 0) (.agg (dwa (n * 10 ^ i))) rfl rfl (run_row Q4 81 0 8 (dwa (n * 10 ^ i)).toList rfl Try.underlying81 rfl sz81) rfl ?_
  refine wl_load 81 (.tmp 9) (pt (kf5 7) 0) (.agg (dwa (m * 10 ^ j))) rfl rfl (run_row Q5 81 0 8 (dwa (m * 10 ^ j)).toList rfl Try.underlying81 rfl sz81) rfl ?_
  refine wl_call 79 [(.tmp 42), (.tmp 43)] _ [.agg (dwa (n * 10 ^ i)), .agg (dwa (m * 10 ^ j))] (.int .i64 (cm (n * 10 ^ i) (m * 10 ^ j))) rfl rfl (fun _ _ => by kernel_rfl) (cmpDouble_x (n * 10 ^ i) (m * 10 ^ j) _ bX.1 bX.2 bY.1 bY.2) rfl ?_
  intro w8 hq
  replace Q1 := Q1.mo hq
  replace Q2 := Q2.mo hq
  replace Q3 := Q3.mo hq
  replace Q4 := Q4.mo hq
  replace Q5 := Q5.mo hq
  replace M := M.trans hq
  clear hq
  refine wl_bin (fun x y => do eqGuard .lss 3 (.tmp 44) (.const (.int .i64 (0))) x y; binOp .lss 3 x y) (.tmp 44) (.const (.int .i64 (0))) (.int .i64 (cm (n * 10 ^ i) (m * 10 ^ j))) (.int .i64 (0)) (.bool false) (fun _ => rfl) rfl rfl (lss_run hc _ _ _) rfl ?_
  refine w_nil ?_
  refine xn_then ?_
  refine w_condF rfl ?_
  refine w_skip ?_
  refine xn_then ?_
  refine w_seq ?_
  refine w_any 9 [.inl (pt k1 0), .inl (.bool bu), .inl (.agg (dwa (n * 10 ^ i))), .inl (.agg (dwa (m * 10 ^ j))), .inl (.agg (dwa (n * 10 ^ i - m * 10 ^ j))), .inl (.int .i64 (S)), .inl (.tuple #[.agg #[d0, d1, d2, d3, d4, d5], .int .i64 e]), .inl (.agg #[d0, d1, d2, d3, d4, d5]), .inl (.int .i64 e)] [] (by kernel_rfl) (by kernel_rfl) (by kernel_rfl) (by kernel_rfl) rfl (by kernel_rfl) (by kernel_rfl) late_nil ?_ ?_ ?_
  · exact Ds.none rfl
  · refine ea_cons ?_ (ea_cons ?_ (ea_cons ?_ (ea_cons ?_ (ea_cons ?_ (ea_cons ?_ (ea_cons ?_ (ea_cons ?_ (ea_cons ?_ (ea_nil)))))))))
    · exact og_eq (pt k1 0) rfl (fun f wf hq hd K hK => go_run rfl (wo_un (fun v => Instr.fieldAt 40 v 0) (.tmp 2) (pt k1 0) (pt k1 0) (fun _ => rfl) rfl (by kernel_rfl) (hK _ (Mo.refl _))))
    · exact og_eq (.bool bu) rfl (fun f wf hq hd K hK => have Q1 := Q1.mo hq; go_run rfl (wo_load 4 (.tmp 55) (pt k1 0) (.bool bu) rfl (hd 0 rfl) (run_one Q1 4 0 rfl Try.underlying4 rfl) (hK _ (Mo.refl _))))
    · exact og_eq (.agg (dwa (n * 10 ^ i))) rfl (fun f wf hq hd K hK => have Q4 := Q4.mo hq; go_run rfl (wo_load 81 (.tmp 8) (pt (kf5 6) 0) (.agg (dwa (n * 10 ^ i))) rfl rfl (run_row Q4 81 0 8 (dwa (n * 10 ^ i)).toList rfl Try.underlying81 rfl sz81) (hK _ (Mo.refl _))))
    · exact og_eq (.agg (dwa (m * 10 ^ j))) rfl (fun f wf hq hd K hK => have Q5 := Q5.mo hq; go_run rfl (wo_load 81 (.tmp 9) (pt (kf5 7) 0) (.agg (dwa (m * 10 ^ j))) rfl rfl (run_row Q5 81 0 8 (dwa (m * 10 ^ j)).toList rfl Try.underlying81 rfl sz81) (hK _ (Mo.refl _))))
    · exact og_eq (.agg (dwa (n * 10 ^ i - m * 10 ^ j))) rfl (fun f wf hq hd K hK => go_run rfl (wo_call 80 [(.tmp 57), (.tmp 58)] _ [.agg (dwa (n * 10 ^ i)), .agg (dwa (m * 10 ^ j))] (.agg (dwa (n * 10 ^ i - m * 10 ^ j))) rfl (li2 (hd 2 rfl) (hd 3 rfl)) (fun _ _ => by kernel_rfl) (subDouble_x (n * 10 ^ i) (m * 10 ^ j) _ bX.1 bX.2 bY.1 bY.2) hK))
    · exact og_eq (.int .i64 (S)) rfl (fun f wf hq hd K hK => go_run rfl (wo_mv (.tmp 7) (.int .i64 (S)) (fun _ => rfl) rfl (hK _ (Mo.refl _))))
    · exact og_eq (.tuple #[.agg #[d0, d1, d2, d3, d4, d5], .int .i64 e]) rfl (fun f wf hq hd K hK => go_run rfl (wo_call 77 [(.tmp 56), (.tmp 59), (.tmp 60)] _ [.bool bu, .agg (dwa (n * 10 ^ i - m * 10 ^ j)), .int .i64 (S)] (.tuple #[.agg #[d0, d1, d2, d3, d4, d5], .int .i64 e]) rfl (li3 (hd 1 rfl) (hd 4 rfl) (hd 5 rfl)) (fun _ _ => by kernel_rfl) (hfit _) hK))
    · exact og_eq (.agg #[d0, d1, d2, d3, d4, d5]) rfl (fun f wf hq hd K hK => go_run rfl (wo_un (fun v => Instr.extract v 0) (.tmp 61) (.tuple #[.agg #[d0, d1, d2, d3, d4, d5], .int .i64 e]) (.agg #[d0, d1, d2, d3, d4, d5]) (fun _ => rfl) (hd 6 rfl) (by kernel_rfl) (hK _ (Mo.refl _))))
    · exact og_eq (.int .i64 e) rfl (fun f wf hq hd K hK => go_run rfl (wo_un (fun v => Instr.extract v 1) (.tmp 61) (.tuple #[.agg #[d0, d1, d2, d3, d4, d5], .int .i64 e]) (.int .i64 e) (fun _ => rfl) (hd 6 rfl) (by kernel_rfl) (hK _ (Mo.refl _))))
  intro kf9 w9 hq hR hne
  replace Q1 := Q1.mo hq
  replace Q2 := Q2.mo hq
  replace Q3 := Q3.mo hq
  replace Q4 := Q4.mo hq
  replace Q5 := Q5.mo hq
  replace M := M.trans hq
  clear hq hR hne
  refine wl_st 40 (.tmp 4) (.tmp 62) k3 0 #[d0, d1, d2, d3, d4, d5] [.bool false, .int .u64 0, .int .u64 0, .int .u64 0, .int .u64 0, .int .i64 0] [d0, d1, d2, d3, d4, d5] Q3 rfl rfl rfl rfl rfl sz40 hd rfl rfl ?_
  intro w10 hS Qn
  replace Q3 := Qn
  clear Qn
  replace Q1 := hS.other _ _ ne_k1_k3 Q1
  replace Q2 := hS.other _ _ ne_k2_k3 Q2
  replace Q4 := hS.other _ _ ne_k3_k4.symm Q4
  replace Q5 := hS.other _ _ ne_k3_k5.symm Q5
  replace M := hS.mo _ N_k3 M
  clear hS
  refine wl_mv (.tmp 63) (.int .i64 e) (fun _ => rfl) rfl rfl ?_
  refine w_nil ?_
  refine xn_then ?_
  refine w_ret ?_
  exact w_ret2 _ _ (.agg #[d0, d1, d2, d3, d4, d5]) (.int .i64 e) rfl ⟨k3, rfl, (run_row Q3 40 0 6 [d0, d1, d2, d3, d4, d5] rfl Try.underlying40 rfl sz40)⟩ rfl ⟨rfl, M⟩
end Go.Proofs.Ytoiiekmkcpcbgaa
/-
  decimal.cmpHalf, checkRounding, isAway, OfInt, cmp.Compare: the walks.
-/
namespace Go.Proofs.Ytoiiekmkcpcbgaa
open Go.RowKit
set_option maxHeartbeats 4000000 in
theorem cmpHalf_n (r d : Int) (w : World) (hr0 : 0 ≤ r) (hr : r + r < MM) (hd0 : 0 ≤ d) (hd : d < MM) :
    Calls Try.prog 107 #[nv r, nv d] w fun e w' => e = .returned (.int .i64 (cm (r + r) d)) ∧ Mo w w' := by
  go_enter Try.func107, Try.ntmps107
  go_wp2_with fail
  refine (add_n r r _ hr0 (by omega) hr0 (by omega)).mono ?_
  rintro e w1 ⟨rfl, hm1⟩
  have mz : Mo w w1 := Mo.trans (by repeat (first | with_reducible exact Mo.refl _ | with_reducible apply Mo.drew | with_reducible apply Mo.alloc)) hm1
  have M := mz
  have Qd : AtN w1 (w.heap.size + 1) d := AtN.mo ⟨by simp [At4, go_sem], fun o => by simp [go_sem], by simp <;> omega⟩ hm1
  clear hm1 mz
  have Od := Qd
  obtain ⟨⟨cd0, cd1, cd2, cd3⟩, fd, sd⟩ := Od
  have fd := fun o => fd o
  have sxd : w.heap.size + 1 < w1.heap.size + 1 := by omega
  have syd : w.heap.size + 1 < w1.heap.size + 1 + 1 := by omega
  go_wp2_with fail
  refine (cmp_n (r + r) d _ (by omega) hr hd0 hd).mono ?_
  rintro e w2 ⟨rfl, hm2⟩
  have mz : Mo w1 w2 := Mo.trans (by repeat (first | with_reducible exact Mo.refl _ | with_reducible apply Mo.drew | with_reducible apply Mo.alloc)) hm2
  clear cd0 cd1 cd2 cd3 fd sd sxd syd
  have Qd := Qd.mo mz
  have M := M.trans mz
  clear hm2 mz
  have Od := Qd
  obtain ⟨⟨cd0, cd1, cd2, cd3⟩, fd, sd⟩ := Od
  have fd := fun o => fd o
  have sxd : w.heap.size + 1 < w2.heap.size + 1 := by omega
  have syd : w.heap.size + 1 < w2.heap.size + 1 + 1 := by omega
  go_wp2
  go_ret
  exact ⟨rfl, M⟩
theorem cr_no (s p : Int) (w : World) (h : sc s = false) : Calls Try.prog 88 #[.int .i64 s, .int .i64 p] w fun e w' => e = .returned (.int .i64 21) ∧ Mo w w' := by
  go_enter Try.func88, Try.ntmps88
  go_wp2_with fail
  refine (isScale_n s _).mono ?_
  rintro e w1 ⟨rfl, hm1⟩
  go_wp2
  go_ret
  exact ⟨rfl, hm1⟩
set_option maxHeartbeats 4000000 in
theorem cr_ok (s p : Int) (w : World) (h : sc s = true) (hp1 : 1 ≤ p) (hp5 : p ≤ 5) : Calls Try.prog 88 #[.int .i64 s, .int .i64 p] w fun e w' => e = .returned (.int .i64 0) ∧ Mo w w' := by
  have hp : p = 1 ∨ p = 2 ∨ p = 3 ∨ p = 4 ∨ p = 5 := by omega
  clear hp1 hp5
  rcases hp with rfl | rfl | rfl | rfl | rfl
  all_goals
    go_enter Try.func88, Try.ntmps88
    go_wp2_with fail
    refine (isScale_n s _).mono ?_
    rintro e w1 ⟨rfl, hm1⟩
    go_wp2
    go_ret
    exact ⟨rfl, hm1⟩
set_option maxHeartbeats 4000000 in
theorem cr_pol (s p : Int) (w : World) (h : sc s = true) (hp : p < 1 ∨ 5 < p) : Calls Try.prog 88 #[.int .i64 s, .int .i64 p] w fun e w' => e = .returned (.int .i64 22) ∧ Mo w w' := by
  have h1 : (p == 1) = false := by simp; omega
  have h2 : (p == 2) = false := by simp; omega
  have h3 : (p == 3) = false := by simp; omega
  have h4 : (p == 4) = false := by simp; omega
  have h5 : (p == 5) = false := by simp; omega
  clear hp
  go_enter Try.func88, Try.ntmps88
  go_wp2_with fail
  refine (isScale_n s _).mono ?_
  rintro e w1 ⟨rfl, hm1⟩
  go_wp2
  go_ret
  exact ⟨rfl, hm1⟩
/-- Whether the policy takes the number farther from 0. -/
def aw (b : Bool) (q r d p : Int) : Bool := if r = 0 then false else if p = 1 then decide (d ≤ r + r) else if p = 2 then (decide (d < r + r) || (decide (r + r = d) && decide (q % 2 = 1))) else if p = 4 then true else if p = 5 then b else false
theorem cm_ge {a b : Int} : decide (cm a b ≥ 0) = decide (b ≤ a) := by
  unfold cm
  by_cases h : a < b
  · rw [if_pos h, decide_eq_false (by decide), decide_eq_false (by omega)]
  · rw [if_neg h, decide_eq_true (p := b ≤ a) (by omega)]
    split <;> decide
theorem cm_gt {a b : Int} : decide (cm a b > 0) = decide (b < a) := by
  unfold cm
  by_cases h : a < b
  · rw [if_pos h, decide_eq_false (by decide), decide_eq_false (by omega)]
  · rw [if_neg h]
    by_cases h2 : b < a
    · rw [if_pos h2, decide_eq_true (by decide), decide_eq_true h2]
    · rw [if_neg h2, decide_eq_false (by decide), decide_eq_false h2]
theorem cm_eq {a b : Int} : (cm a b == 0) = decide (a = b) := by
  unfold cm
  by_cases h : a < b
  · rw [if_pos h, decide_eq_false (by omega)]; rfl
  · rw [if_neg h]
    by_cases h2 : b < a
    · rw [if_pos h2, decide_eq_false (by omega)]; rfl
    · rw [if_neg h2, decide_eq_true (by omega)]; rfl
set_option maxHeartbeats 4000000 in
theorem aw_zero (b : Bool) (q r d : Int) (p : Int) (w : World) (_hq0 : 0 ≤ q) (_hq : q < MM) (hr0 : 0 ≤ r) (_hr : r + r < MM) (_hd0 : 0 ≤ d) (_hd : d < MM) (hz : r = 0) :
    Calls Try.prog 102 #[.bool b, nv q, nv r, nv d, .int .i64 p] w fun e w' => e = .returned (.bool false) ∧ Mo w w' := by
  have q4 := eq4
  have z4 := zb hr0 (show r < MM by omega)
  rw [decide_eq_true hz] at z4
  clear hz
  go_enter Try.func102, Try.ntmps102
  go_wp2
  go_ret
  exact ⟨rfl, (((Mo.refl _).alloc _ _).alloc _ _).alloc _ _⟩
set_option maxHeartbeats 4000000 in
theorem aw_1 (b : Bool) (q r d : Int) (w : World) (_hq0 : 0 ≤ q) (_hq : q < MM) (hr0 : 0 ≤ r) (_hr : r + r < MM) (_hd0 : 0 ≤ d) (_hd : d < MM) (hz : r ≠ 0) :
    Calls Try.prog 102 #[.bool b, nv q, nv r, nv d, .int .i64 1] w fun e w' => e = .returned (.bool (decide (cm (r + r) d ≥ 0))) ∧ Mo w w' := by
  have q4 := eq4
  have z4 := zb hr0 (show r < MM by omega)
  rw [decide_eq_false hz] at z4
  clear hz
  go_enter Try.func102, Try.ntmps102
  go_wp2_with fail
  refine (cmpHalf_n r d _ hr0 _hr _hd0 _hd).mono ?_
  rintro e w1 ⟨rfl, hm1⟩
  have mz : Mo w w1 := Mo.trans (by repeat (first | with_reducible exact Mo.refl _ | with_reducible apply Mo.drew | with_reducible apply Mo.alloc)) hm1
  have M := mz
  clear hm1 mz
  go_wp2
  go_ret
  exact ⟨rfl, M⟩
set_option maxHeartbeats 4000000 in
theorem aw_2a (b : Bool) (q r d : Int) (w : World) (_hq0 : 0 ≤ q) (_hq : q < MM) (hr0 : 0 ≤ r) (_hr : r + r < MM) (_hd0 : 0 ≤ d) (_hd : d < MM) (hz : r ≠ 0) (hc : d < r + r) :
    Calls Try.prog 102 #[.bool b, nv q, nv r, nv d, .int .i64 2] w fun e w' => e = .returned (.bool true) ∧ Mo w w' := by
  have q4 := eq4
  have z4 := zb hr0 (show r < MM by omega)
  rw [decide_eq_false hz] at z4
  have c1 : decide (cm (r + r) d > 0) = true := by rw [cm_gt]; exact decide_eq_true hc
  clear hz hc
  go_enter Try.func102, Try.ntmps102
  go_wp2_with fail
  refine (cmpHalf_n r d _ hr0 _hr _hd0 _hd).mono ?_
  rintro e w1 ⟨rfl, hm1⟩
  have mz : Mo w w1 := Mo.trans (by repeat (first | with_reducible exact Mo.refl _ | with_reducible apply Mo.drew | with_reducible apply Mo.alloc)) hm1
  have M := mz
  clear hm1 mz
  go_wp2
  go_ret
  exact ⟨rfl, M⟩
set_option maxHeartbeats 4000000 in
theorem aw_2b (b : Bool) (q r d : Int) (w : World) (_hq0 : 0 ≤ q) (_hq : q < MM) (hr0 : 0 ≤ r) (_hr : r + r < MM) (_hd0 : 0 ≤ d) (_hd : d < MM) (hz : r ≠ 0) (hc : r + r = d) :
    Calls Try.prog 102 #[.bool b, nv q, nv r, nv d, .int .i64 2] w fun e w' => e = .returned (.bool (l0 q % 2 == 1)) ∧ Mo w w' := by
  have q4 := eq4
  have z4 := zb hr0 (show r < MM by omega)
  rw [decide_eq_false hz] at z4
  have c1 : decide (cm (r + r) d > 0) = false := by rw [cm_gt]; exact decide_eq_false (by omega)
  have c2 : (cm (r + r) d == 0) = true := by rw [cm_eq]; exact decide_eq_true hc
  clear hz hc
  go_enter Try.func102, Try.ntmps102
  go_wp2_with fail
  refine (cmpHalf_n r d _ hr0 _hr _hd0 _hd).mono ?_
  rintro e w1 ⟨rfl, hm1⟩
  have mz : Mo w w1 := Mo.trans (by repeat (first | with_reducible exact Mo.refl _ | with_reducible apply Mo.drew | with_reducible apply Mo.alloc)) hm1
  have M := mz
  have Qq : AtN w1 (w.heap.size) q := AtN.mo ⟨by simp [At4, go_sem], fun o => by simp [go_sem], by simp <;> omega⟩ hm1
  clear hm1 mz
  have Oq := Qq
  obtain ⟨⟨cq0, cq1, cq2, cq3⟩, fq, sq⟩ := Oq
  have fq := fun o => fq o
  have sxq : w.heap.size < w1.heap.size + 1 := by omega
  have syq : w.heap.size < w1.heap.size + 1 + 1 := by omega
  go_wp2_with fail
  refine (odd_any (l0 q) (l1 q) (l2 q) (l3 q) _ (u4_lb q)).mono ?_
  rintro e w2 ⟨rfl, hm2⟩
  have mz : Mo w1 w2 := Mo.trans (by repeat (first | with_reducible exact Mo.refl _ | with_reducible apply Mo.drew | with_reducible apply Mo.alloc)) hm2
  clear cq0 cq1 cq2 cq3 fq sq sxq syq
  have Qq := Qq.mo mz
  have M := M.trans mz
  clear hm2 mz
  have Oq := Qq
  obtain ⟨⟨cq0, cq1, cq2, cq3⟩, fq, sq⟩ := Oq
  have fq := fun o => fq o
  have sxq : w.heap.size < w2.heap.size + 1 := by omega
  have syq : w.heap.size < w2.heap.size + 1 + 1 := by omega
  go_wp2
  go_ret
  exact ⟨rfl, M⟩
set_option maxHeartbeats 4000000 in
theorem aw_2c (b : Bool) (q r d : Int) (w : World) (_hq0 : 0 ≤ q) (_hq : q < MM) (hr0 : 0 ≤ r) (_hr : r + r < MM) (_hd0 : 0 ≤ d) (_hd : d < MM) (hz : r ≠ 0) (hc : r + r < d) :
    Calls Try.prog 102 #[.bool b, nv q, nv r, nv d, .int .i64 2] w fun e w' => e = .returned (.bool false) ∧ Mo w w' := by
  have q4 := eq4
  have z4 := zb hr0 (show r < MM by omega)
  rw [decide_eq_false hz] at z4
  have c1 : decide (cm (r + r) d > 0) = false := by rw [cm_gt]; exact decide_eq_false (by omega)
  have c2 : (cm (r + r) d == 0) = false := by rw [cm_eq]; exact decide_eq_false (by omega)
  clear hz hc
  go_enter Try.func102, Try.ntmps102
  go_wp2_with fail
  refine (cmpHalf_n r d _ hr0 _hr _hd0 _hd).mono ?_
  rintro e w1 ⟨rfl, hm1⟩
  have mz : Mo w w1 := Mo.trans (by repeat (first | with_reducible exact Mo.refl _ | with_reducible apply Mo.drew | with_reducible apply Mo.alloc)) hm1
  have M := mz
  clear hm1 mz
  go_wp2
  go_ret
  exact ⟨rfl, M⟩
set_option maxHeartbeats 4000000 in
theorem aw_4 (b : Bool) (q r d : Int) (w : World) (_hq0 : 0 ≤ q) (_hq : q < MM) (hr0 : 0 ≤ r) (_hr : r + r < MM) (_hd0 : 0 ≤ d) (_hd : d < MM) (hz : r ≠ 0) :
    Calls Try.prog 102 #[.bool b, nv q, nv r, nv d, .int .i64 4] w fun e w' => e = .returned (.bool true) ∧ Mo w w' := by
  have q4 := eq4
  have z4 := zb hr0 (show r < MM by omega)
  rw [decide_eq_false hz] at z4
  clear hz
  go_enter Try.func102, Try.ntmps102
  go_wp2
  go_ret
  exact ⟨rfl, (((Mo.refl _).alloc _ _).alloc _ _).alloc _ _⟩
set_option maxHeartbeats 4000000 in
theorem aw_5 (b : Bool) (q r d : Int) (w : World) (_hq0 : 0 ≤ q) (_hq : q < MM) (hr0 : 0 ≤ r) (_hr : r + r < MM) (_hd0 : 0 ≤ d) (_hd : d < MM) (hz : r ≠ 0) :
    Calls Try.prog 102 #[.bool b, nv q, nv r, nv d, .int .i64 5] w fun e w' => e = .returned (.bool b) ∧ Mo w w' := by
  have q4 := eq4
  have z4 := zb hr0 (show r < MM by omega)
  rw [decide_eq_false hz] at z4
  clear hz
  go_enter Try.func102, Try.ntmps102
  go_wp2
  go_ret
  exact ⟨rfl, (((Mo.refl _).alloc _ _).alloc _ _).alloc _ _⟩
set_option maxHeartbeats 4000000 in
theorem aw_3 (b : Bool) (q r d : Int) (w : World) (_hq0 : 0 ≤ q) (_hq : q < MM) (hr0 : 0 ≤ r) (_hr : r + r < MM) (_hd0 : 0 ≤ d) (_hd : d < MM) (hz : r ≠ 0) :
    Calls Try.prog 102 #[.bool b, nv q, nv r, nv d, .int .i64 3] w fun e w' => e = .returned (.bool false) ∧ Mo w w' := by
  have q4 := eq4
  have z4 := zb hr0 (show r < MM by omega)
  rw [decide_eq_false hz] at z4
  clear hz
  go_enter Try.func102, Try.ntmps102
  go_wp2
  go_ret
  exact ⟨rfl, (((Mo.refl _).alloc _ _).alloc _ _).alloc _ _⟩
theorem isAway_n (b : Bool) (q r d p : Int) (w : World) (hq0 : 0 ≤ q) (hq : q < MM) (hr0 : 0 ≤ r) (hr : r + r < MM) (hd0 : 0 ≤ d) (hd : d < MM) (hp1 : 1 ≤ p) (hp5 : p ≤ 5) :
    Calls Try.prog 102 #[.bool b, nv q, nv r, nv d, .int .i64 p] w fun e w' => e = .returned (.bool (aw b q r d p)) ∧ Mo w w' := by
  unfold aw
  by_cases hz : r = 0
  · rw [if_pos hz]; exact aw_zero b q r d p w hq0 hq hr0 hr hd0 hd hz
  · rw [if_neg hz]
    have hp : p = 1 ∨ p = 2 ∨ p = 3 ∨ p = 4 ∨ p = 5 := by omega
    rcases hp with rfl | rfl | rfl | rfl | rfl
    · rw [if_pos rfl, ← cm_ge]; exact aw_1 b q r d w hq0 hq hr0 hr hd0 hd hz
    · rw [if_neg (by decide), if_pos rfl]
      by_cases h1 : d < r + r
      · rw [decide_eq_true h1]; exact aw_2a b q r d w hq0 hq hr0 hr hd0 hd hz h1
      · rw [decide_eq_false h1]
        by_cases h2 : r + r = d
        · rw [decide_eq_true h2]
          have e : (l0 q % 2 == 1) = decide (q % 2 = 1) := by unfold l0; rw [Bool.eq_iff_iff]; simp
          rw [← e]
          exact aw_2b b q r d w hq0 hq hr0 hr hd0 hd hz h2
        · rw [decide_eq_false h2]; exact aw_2c b q r d w hq0 hq hr0 hr hd0 hd hz (by omega)
    · rw [if_neg (by decide), if_neg (by decide), if_neg (by decide), if_neg (by decide)]; exact aw_3 b q r d w hq0 hq hr0 hr hd0 hd hz
    · rw [if_neg (by decide), if_neg (by decide), if_pos rfl]; exact aw_4 b q r d w hq0 hq hr0 hr hd0 hd hz
    · rw [if_neg (by decide), if_neg (by decide), if_neg (by decide), if_pos rfl]; exact aw_5 b q r d w hq0 hq hr0 hr hd0 hd hz
end Go.Proofs.Ytoiiekmkcpcbgaa
/-
  decimal.shorten: the walk.
-/
namespace Go.Proofs.Ytoiiekmkcpcbgaa
open Go.RowKit
theorem AtD.setD {w : World} {k j : Nat} {b : Bool} {n s : Int} (h : AtD w j b n s) (hk : j ≠ k) (o : Nat) (v : Value) : AtD (w.setCell ⟨k, o, none⟩ v) j b n s := by
  obtain ⟨⟨a0, a1, a2, a3, a4, a5⟩, f, z⟩ := h
  refine ⟨by simp [go_sem, *], fun o => by simp [World.frozen?_setCell, f o], by simpa [World.setCell] using z⟩
theorem div_x (X d : Int) (w : World) (hX0 : 0 ≤ X) (hX : X < MM * MM) (hd0 : 0 ≤ d) (hd : d < MM) :
    Calls Try.prog 18 #[nv (X / MM), nv X, nv d] w fun e w' => e = .returned (.tuple #[nv (dq (X / MM) (X % MM) d), nv (dr (X / MM) (X % MM) d), .bool (dok (X / MM) d)]) ∧ Mo w w' := by
  have p : (0 : Int) < MM := by decide
  have h := div_n (X / MM) (X % MM) d w (Int.ediv_nonneg hX0 (by omega)) (Int.ediv_lt_of_lt_mul p hX) (Int.emod_nonneg _ (by omega)) (Int.emod_lt_of_pos _ p) hd0 hd
  rw [nv_mod X] at h
  exact h
theorem wide_join (X : Int) : X / MM * MM + X % MM = X := by rw [Int.mul_comm]; exact Int.mul_ediv_add_emod X MM
theorem div_x_ok (X d : Int) (w : World) (hX0 : 0 ≤ X) (hX : X < MM * MM) (hd0 : 0 ≤ d) (hd : d < MM) (h : X / MM < d) :
    Calls Try.prog 18 #[nv (X / MM), nv X, nv d] w fun e w' => e = .returned (.tuple #[nv (X / d), nv (X % d), .bool true]) ∧ Mo w w' := by
  have hh := div_x X d w hX0 hX hd0 hd
  unfold dq dr dok at hh
  rw [if_neg (by omega), if_neg (by omega), wide_join, decide_eq_true h] at hh
  exact hh
theorem div_x_no (X d : Int) (w : World) (hX0 : 0 ≤ X) (hX : X < MM * MM) (hd0 : 0 ≤ d) (hd : d < MM) (h : d ≤ X / MM) :
    Calls Try.prog 18 #[nv (X / MM), nv X, nv d] w fun e w' => e = .returned (.tuple #[nv 0, nv 0, .bool false]) ∧ Mo w w' := by
  have hh := div_x X d w hX0 hX hd0 hd
  unfold dq dr dok at hh
  rw [if_pos h, if_pos h, decide_eq_false (by omega)] at hh
  exact hh
set_option maxHeartbeats 4000000 in
theorem shorten_no (b : Bool) (X S p : Int) (k : Nat) (w : World) (hX0 : 0 ≤ X) (hX : X < MM * MM) (hk : k ≤ 77) (_hp1 : 1 ≤ p) (_hp5 : p ≤ 5) (h : 10 ^ k ≤ X / MM) :
    Calls Try.prog 89 #[.bool b, dw X, .int .i64 (k : Int), .int .i64 S, .int .i64 p] w fun e w' => e = .returned (er 7) ∧ Mo w w' := by
  obtain ⟨d, hd⟩ : ∃ d : Int, d = 10 ^ k := ⟨_, rfl⟩
  have t := ten_bd k hk
  rw [← hd] at t h
  have T := dten_n k w hk
  have HD : Hid _ := hd
  obtain ⟨t0, t1⟩ := t
  have hten : ∀ w, Calls Try.prog 74 #[.int .i64 (k : Int)] w fun e w' => e = .returned (nv d) ∧ Mo w w' := fun w => by rw [hd]; exact dten_n k w hk
  clear hd T
  go_enter Try.func89, Try.ntmps89
  go_wp2_with fail
  refine (hten _).mono ?_
  rintro e w1 ⟨rfl, hm1⟩
  have mz : Mo w w1 := Mo.trans (by repeat (first | with_reducible exact Mo.refl _ | with_reducible apply Mo.drew | with_reducible apply Mo.alloc)) hm1
  have M := mz
  have Qx : AtW w1 (w.heap.size) X := AtW.mo ⟨by simp [go_sem], fun o => by simp [go_sem], by simp <;> omega⟩ hm1
  have Qr : AtD w1 (w.heap.size + 1) false 0 0 := AtD.mo ⟨by simp [go_sem, zl0, zl1, zl2, zl3], fun o => by simp [go_sem], by simp <;> omega⟩ hm1
  clear hm1 mz
  have Ox := Qx
  obtain ⟨⟨cx0, cx1, cx2, cx3, cx4, cx5, cx6, cx7⟩, fx, sx⟩ := Ox
  have fx := fun o => fx o
  have sxx : w.heap.size < w1.heap.size + 1 := by omega
  have syx : w.heap.size < w1.heap.size + 1 + 1 := by omega
  have Or := Qr
  obtain ⟨⟨cr0, cr1, cr2, cr3, cr4, cr5⟩, fr, sr⟩ := Or
  have fr := fun o => fr o
  have sxr : w.heap.size + 1 < w1.heap.size + 1 := by omega
  have syr : w.heap.size + 1 < w1.heap.size + 1 + 1 := by omega
  go_wp2_with fail
  refine (div_x_no X d _ hX0 hX (by omega) t1 h).mono ?_
  rintro e w2 ⟨rfl, hm2⟩
  have mz : Mo w1 w2 := Mo.trans (by repeat (first | with_reducible exact Mo.refl _ | with_reducible apply Mo.drew | with_reducible apply Mo.alloc)) hm2
  have zw1x := sx
  have zw1r := sr
  clear cx0 cx1 cx2 cx3 cx4 cx5 cx6 cx7 fx sx sxx syx cr0 cr1 cr2 cr3 cr4 cr5 fr sr sxr syr
  clear Qx
  have Qr := Qr.mo mz
  have M := M.trans mz
  clear hm2 mz
  have Or := Qr
  obtain ⟨⟨cr0, cr1, cr2, cr3, cr4, cr5⟩, fr, sr⟩ := Or
  have fr := fun o => fr o
  have sxr : w.heap.size + 1 < w2.heap.size + 1 := by omega
  have syr : w.heap.size + 1 < w2.heap.size + 1 + 1 := by omega
  have a : Mo w2 ((((w2).alloc (.cells #[.int .u64 (l0 (0)), .int .u64 (l1 (0)), .int .u64 (l2 (0)), .int .u64 (l3 (0))] 24))).alloc (.cells #[.int .u64 (l0 (0)), .int .u64 (l1 (0)), .int .u64 (l2 (0)), .int .u64 (l3 (0))] 24)) := by repeat (first | with_reducible exact Mo.refl _ | with_reducible apply Mo.alloc)
  have zW0r := sr
  clear cr0 cr1 cr2 cr3 cr4 cr5 fr sr sxr syr
  have Qr := Qr.mo a
  have M := M.trans a
  clear a
  go_upto_region 4 with fail
  generalize ((((w2).alloc (.cells #[.int .u64 (l0 (0)), .int .u64 (l1 (0)), .int .u64 (l2 (0)), .int .u64 (l3 (0))] 24))).alloc (.cells #[.int .u64 (l0 (0)), .int .u64 (l1 (0)), .int .u64 (l2 (0)), .int .u64 (l3 (0))] 24)) = W0 at *
  have Or := Qr
  obtain ⟨⟨cr0, cr1, cr2, cr3, cr4, cr5⟩, fr, sr⟩ := Or
  have fr := fun o => fr o
  have sxr : w.heap.size + 1 < W0.heap.size + 1 := by omega
  have syr : w.heap.size + 1 < W0.heap.size + 1 + 1 := by omega
  go_wp2
  refine bodyPost_ret (v := er 7) (by simp [results, Try.results89, go_sem, *]) rfl ?_
  refine ⟨rfl, ?_⟩
  repeat (first | with_reducible exact M | with_reducible exact Mo.refl _ | with_reducible apply Mo.drew | with_reducible apply Mo.drewN | with_reducible apply Mo.alloc | with_reducible refine Mo.setCell ?_ (by simp <;> omega) _)
set_option maxHeartbeats 4000000 in
theorem shorten_stay (b : Bool) (X S p : Int) (k : Nat) (w : World) (hX0 : 0 ≤ X) (hX : X < MM * MM) (hk : k ≤ 36) (_hp1 : 1 ≤ p) (_hp5 : p ≤ 5) (h : X / MM < 10 ^ k) (ha : aw b (X / 10 ^ k) (X % 10 ^ k) (10 ^ k) p = false) :
    Calls Try.prog 89 #[.bool b, dw X, .int .i64 (k : Int), .int .i64 S, .int .i64 p] w fun e w' => e = .returned (.tuple #[dc (b && !decide (X / 10 ^ k = 0)) (X / 10 ^ k) S, .int .i64 0]) ∧ Mo w w' := by
  have t := ten_bd k (by omega)
  have t2 : (10 : Int) ^ k + 10 ^ k < MM := by
    have h1 : (10 : Nat) ^ k ≤ 10 ^ 36 := Nat.pow_le_pow_right (by decide) hk
    have h2 : (10 : Nat) ^ 36 + 10 ^ 36 < 115792089237316195423570985008687907853269984665640564039457584007913129639936 := by decide
    have h3 : ((10 ^ k : Nat) : Int) = (10 : Int) ^ k := by rw [Int.natCast_pow]; rfl
    rw [← h3]
    unfold MM
    omega
  have hten0 : ∀ w, Calls Try.prog 74 #[.int .i64 (k : Int)] w fun e w' => e = .returned (nv (10 ^ k)) ∧ Mo w w' := fun w => dten_n k w (by omega)
  generalize (10 : Int) ^ k = d at *
  have hten := hten0
  clear hten0
  obtain ⟨t0, t1⟩ := t
  have hdiv : ∀ w, Calls Try.prog 18 #[nv (X / MM), nv X, nv d] w fun e w' => e = .returned (.tuple #[nv (X / d), nv (X % d), .bool true]) ∧ Mo w w' := fun w => div_x_ok X d w hX0 hX (by omega) t1 h
  have q0 : 0 ≤ X / d := Int.ediv_nonneg hX0 (by omega)
  have q1 : X / d < MM := by
    apply Int.ediv_lt_of_lt_mul t0
    have a := Int.lt_ediv_add_one_mul_self X (show (0 : Int) < MM by decide)
    have b := Int.mul_le_mul_of_nonneg_right (show X / MM + 1 ≤ d by omega) (show (0 : Int) ≤ MM by decide)
    rw [Int.mul_comm MM]
    omega
  have r0 : 0 ≤ X % d := Int.emod_nonneg _ (by omega)
  have r1 : X % d < d := Int.emod_lt_of_pos _ t0
  generalize X / d = q at *
  generalize X % d = r at *
  have haw : ∀ w, Calls Try.prog 102 #[.bool b, nv q, nv r, nv d, .int .i64 p] w fun e w' => e = .returned (.bool false) ∧ Mo w w' := fun w => by
    have := isAway_n b q r d p w q0 q1 r0 (by omega) (by omega) t1 _hp1 _hp5
    rw [ha] at this
    exact this
  clear ha h
  go_enter Try.func89, Try.ntmps89
  go_wp2_with fail
  refine (hten _).mono ?_
  rintro e w1 ⟨rfl, hm1⟩
  have mz : Mo w w1 := Mo.trans (by repeat (first | with_reducible exact Mo.refl _ | with_reducible apply Mo.drew | with_reducible apply Mo.alloc)) hm1
  have M := mz
  have Qx : AtW w1 (w.heap.size) X := AtW.mo ⟨by simp [go_sem], fun o => by simp [go_sem], by simp <;> omega⟩ hm1
  have Qr : AtD w1 (w.heap.size + 1) false 0 0 := AtD.mo ⟨by simp [go_sem, zl0, zl1, zl2, zl3], fun o => by simp [go_sem], by simp <;> omega⟩ hm1
  clear hm1 mz
  have Ox := Qx
  obtain ⟨⟨cx0, cx1, cx2, cx3, cx4, cx5, cx6, cx7⟩, fx, sx⟩ := Ox
  have fx := fun o => fx o
  have sxx : w.heap.size < w1.heap.size + 1 := by omega
  have syx : w.heap.size < w1.heap.size + 1 + 1 := by omega
  have Or := Qr
  obtain ⟨⟨cr0, cr1, cr2, cr3, cr4, cr5⟩, fr, sr⟩ := Or
  have fr := fun o => fr o
  have sxr : w.heap.size + 1 < w1.heap.size + 1 := by omega
  have syr : w.heap.size + 1 < w1.heap.size + 1 + 1 := by omega
  go_wp2_with fail
  refine (hdiv _).mono ?_
  rintro e w2 ⟨rfl, hm2⟩
  have mz : Mo w1 w2 := Mo.trans (by repeat (first | with_reducible exact Mo.refl _ | with_reducible apply Mo.drew | with_reducible apply Mo.alloc)) hm2
  have zw1x := sx
  have zw1r := sr
  clear cx0 cx1 cx2 cx3 cx4 cx5 cx6 cx7 fx sx sxx syx cr0 cr1 cr2 cr3 cr4 cr5 fr sr sxr syr
  clear Qx
  have Qr := Qr.mo mz
  have M := M.trans mz
  have Qd : AtN w2 (w1.heap.size) d := AtN.mo ⟨by simp [At4, go_sem], fun o => by simp [go_sem], by simp <;> omega⟩ hm2
  clear hm2 mz
  have Or := Qr
  obtain ⟨⟨cr0, cr1, cr2, cr3, cr4, cr5⟩, fr, sr⟩ := Or
  have fr := fun o => fr o
  have sxr : w.heap.size + 1 < w2.heap.size + 1 := by omega
  have syr : w.heap.size + 1 < w2.heap.size + 1 + 1 := by omega
  have Od := Qd
  obtain ⟨⟨cd0, cd1, cd2, cd3⟩, fd, sd⟩ := Od
  have fd := fun o => fd o
  have sxd : w1.heap.size < w2.heap.size + 1 := by omega
  have syd : w1.heap.size < w2.heap.size + 1 + 1 := by omega
  go_wp2_with fail
  refine (haw _).mono ?_
  rintro e w3 ⟨rfl, hm3⟩
  have mz : Mo w2 w3 := Mo.trans (by repeat (first | with_reducible exact Mo.refl _ | with_reducible apply Mo.drew | with_reducible apply Mo.alloc)) hm3
  have zw2r := sr
  have zw2d := sd
  clear cr0 cr1 cr2 cr3 cr4 cr5 fr sr sxr syr cd0 cd1 cd2 cd3 fd sd sxd syd
  have Qr := Qr.mo mz
  have Qd := Qd.mo mz
  have M := M.trans mz
  have Qq : AtN w3 (w2.heap.size) q := AtN.mo ⟨by simp [At4, go_sem], fun o => by simp [go_sem], by simp <;> omega⟩ hm3
  have Qt : AtN w3 (w2.heap.size + 1) r := AtN.mo ⟨by simp [At4, go_sem], fun o => by simp [go_sem], by simp <;> omega⟩ hm3
  clear hm3 mz
  have Or := Qr
  obtain ⟨⟨cr0, cr1, cr2, cr3, cr4, cr5⟩, fr, sr⟩ := Or
  have fr := fun o => fr o
  have sxr : w.heap.size + 1 < w3.heap.size + 1 := by omega
  have syr : w.heap.size + 1 < w3.heap.size + 1 + 1 := by omega
  have Od := Qd
  obtain ⟨⟨cd0, cd1, cd2, cd3⟩, fd, sd⟩ := Od
  have fd := fun o => fd o
  have sxd : w1.heap.size < w3.heap.size + 1 := by omega
  have syd : w1.heap.size < w3.heap.size + 1 + 1 := by omega
  have Oq := Qq
  obtain ⟨⟨cq0, cq1, cq2, cq3⟩, fq, sq⟩ := Oq
  have fq := fun o => fq o
  have sxq : w2.heap.size < w3.heap.size + 1 := by omega
  have syq : w2.heap.size < w3.heap.size + 1 + 1 := by omega
  have Ot := Qt
  obtain ⟨⟨ct0, ct1, ct2, ct3⟩, ft, st⟩ := Ot
  have ft := fun o => ft o
  have sxt : w2.heap.size + 1 < w3.heap.size + 1 := by omega
  have syt : w2.heap.size + 1 < w3.heap.size + 1 + 1 := by omega
  go_wp2_with fail
  refine (signed_n b q S _ q0 q1).mono ?_
  rintro e w4 ⟨rfl, hm4⟩
  have mz : Mo w3 w4 := Mo.trans (by repeat (first | with_reducible exact Mo.refl _ | with_reducible apply Mo.drew | with_reducible apply Mo.alloc)) hm4
  have zw3r := sr
  have zw3d := sd
  have zw3q := sq
  have zw3t := st
  clear cr0 cr1 cr2 cr3 cr4 cr5 fr sr sxr syr cd0 cd1 cd2 cd3 fd sd sxd syd cq0 cq1 cq2 cq3 fq sq sxq syq ct0 ct1 ct2 ct3 ft st sxt syt
  have Qr := Qr.mo mz
  have Qd := Qd.mo mz
  have Qq := Qq.mo mz
  have Qt := Qt.mo mz
  have M := M.trans mz
  clear hm4 mz
  have Or := Qr
  obtain ⟨⟨cr0, cr1, cr2, cr3, cr4, cr5⟩, fr, sr⟩ := Or
  have fr := fun o => fr o
  have sxr : w.heap.size + 1 < w4.heap.size + 1 := by omega
  have syr : w.heap.size + 1 < w4.heap.size + 1 + 1 := by omega
  have Od := Qd
  obtain ⟨⟨cd0, cd1, cd2, cd3⟩, fd, sd⟩ := Od
  have fd := fun o => fd o
  have sxd : w1.heap.size < w4.heap.size + 1 := by omega
  have syd : w1.heap.size < w4.heap.size + 1 + 1 := by omega
  have Oq := Qq
  obtain ⟨⟨cq0, cq1, cq2, cq3⟩, fq, sq⟩ := Oq
  have fq := fun o => fq o
  have sxq : w2.heap.size < w4.heap.size + 1 := by omega
  have syq : w2.heap.size < w4.heap.size + 1 + 1 := by omega
  have Ot := Qt
  obtain ⟨⟨ct0, ct1, ct2, ct3⟩, ft, st⟩ := Ot
  have ft := fun o => ft o
  have sxt : w2.heap.size + 1 < w4.heap.size + 1 := by omega
  have syt : w2.heap.size + 1 < w4.heap.size + 1 + 1 := by omega
  go_wp2
  refine bodyPost_ret (v := .tuple #[dc (b && !decide (q = 0)) q S, .int .i64 0]) (by simp [results, Try.results89, go_sem, *]) rfl ?_
  refine ⟨rfl, ?_⟩
  repeat (first | with_reducible exact M | with_reducible exact Mo.refl _ | with_reducible apply Mo.drew | with_reducible apply Mo.drewN | with_reducible apply Mo.alloc | with_reducible refine Mo.setCell ?_ (by simp <;> omega) _)
set_option maxHeartbeats 4000000 in
theorem shorten_up (b : Bool) (X S p : Int) (k : Nat) (w : World) (hX0 : 0 ≤ X) (hX : X < MM * MM) (hk : k ≤ 36) (_hp1 : 1 ≤ p) (_hp5 : p ≤ 5) (h : X / MM < 10 ^ k) (ha : aw b (X / 10 ^ k) (X % 10 ^ k) (10 ^ k) p = true) (hq1 : X / 10 ^ k + 1 < MM) :
    Calls Try.prog 89 #[.bool b, dw X, .int .i64 (k : Int), .int .i64 S, .int .i64 p] w fun e w' => e = .returned (.tuple #[dc (b && !decide (X / 10 ^ k + 1 = 0)) (X / 10 ^ k + 1) S, .int .i64 0]) ∧ Mo w w' := by
  have t := ten_bd k (by omega)
  have t2 : (10 : Int) ^ k + 10 ^ k < MM := by
    have h1 : (10 : Nat) ^ k ≤ 10 ^ 36 := Nat.pow_le_pow_right (by decide) hk
    have h2 : (10 : Nat) ^ 36 + 10 ^ 36 < 115792089237316195423570985008687907853269984665640564039457584007913129639936 := by decide
    have h3 : ((10 ^ k : Nat) : Int) = (10 : Int) ^ k := by rw [Int.natCast_pow]; rfl
    rw [← h3]
    unfold MM
    omega
  have hten0 : ∀ w, Calls Try.prog 74 #[.int .i64 (k : Int)] w fun e w' => e = .returned (nv (10 ^ k)) ∧ Mo w w' := fun w => dten_n k w (by omega)
  generalize (10 : Int) ^ k = d at *
  have hten := hten0
  clear hten0
  obtain ⟨t0, t1⟩ := t
  have hdiv : ∀ w, Calls Try.prog 18 #[nv (X / MM), nv X, nv d] w fun e w' => e = .returned (.tuple #[nv (X / d), nv (X % d), .bool true]) ∧ Mo w w' := fun w => div_x_ok X d w hX0 hX (by omega) t1 h
  have q0 : 0 ≤ X / d := Int.ediv_nonneg hX0 (by omega)
  have q1 : X / d < MM := by
    apply Int.ediv_lt_of_lt_mul t0
    have a := Int.lt_ediv_add_one_mul_self X (show (0 : Int) < MM by decide)
    have b := Int.mul_le_mul_of_nonneg_right (show X / MM + 1 ≤ d by omega) (show (0 : Int) ≤ MM by decide)
    rw [Int.mul_comm MM]
    omega
  have r0 : 0 ≤ X % d := Int.emod_nonneg _ (by omega)
  have r1 : X % d < d := Int.emod_lt_of_pos _ t0
  generalize X / d = q at *
  generalize X % d = r at *
  have haw : ∀ w, Calls Try.prog 102 #[.bool b, nv q, nv r, nv d, .int .i64 p] w fun e w' => e = .returned (.bool true) ∧ Mo w w' := fun w => by
    have := isAway_n b q r d p w q0 q1 r0 (by omega) (by omega) t1 _hp1 _hp5
    rw [ha] at this
    exact this
  clear ha h
  go_enter Try.func89, Try.ntmps89
  go_wp2_with fail
  refine (hten _).mono ?_
  rintro e w1 ⟨rfl, hm1⟩
  have mz : Mo w w1 := Mo.trans (by repeat (first | with_reducible exact Mo.refl _ | with_reducible apply Mo.drew | with_reducible apply Mo.alloc)) hm1
  have M := mz
  have Qx : AtW w1 (w.heap.size) X := AtW.mo ⟨by simp [go_sem], fun o => by simp [go_sem], by simp <;> omega⟩ hm1
  have Qr : AtD w1 (w.heap.size + 1) false 0 0 := AtD.mo ⟨by simp [go_sem, zl0, zl1, zl2, zl3], fun o => by simp [go_sem], by simp <;> omega⟩ hm1
  clear hm1 mz
  have Ox := Qx
  obtain ⟨⟨cx0, cx1, cx2, cx3, cx4, cx5, cx6, cx7⟩, fx, sx⟩ := Ox
  have fx := fun o => fx o
  have sxx : w.heap.size < w1.heap.size + 1 := by omega
  have syx : w.heap.size < w1.heap.size + 1 + 1 := by omega
  have Or := Qr
  obtain ⟨⟨cr0, cr1, cr2, cr3, cr4, cr5⟩, fr, sr⟩ := Or
  have fr := fun o => fr o
  have sxr : w.heap.size + 1 < w1.heap.size + 1 := by omega
  have syr : w.heap.size + 1 < w1.heap.size + 1 + 1 := by omega
  go_wp2_with fail
  refine (hdiv _).mono ?_
  rintro e w2 ⟨rfl, hm2⟩
  have mz : Mo w1 w2 := Mo.trans (by repeat (first | with_reducible exact Mo.refl _ | with_reducible apply Mo.drew | with_reducible apply Mo.alloc)) hm2
  have zw1x := sx
  have zw1r := sr
  clear cx0 cx1 cx2 cx3 cx4 cx5 cx6 cx7 fx sx sxx syx cr0 cr1 cr2 cr3 cr4 cr5 fr sr sxr syr
  clear Qx
  have Qr := Qr.mo mz
  have M := M.trans mz
  have Qd : AtN w2 (w1.heap.size) d := AtN.mo ⟨by simp [At4, go_sem], fun o => by simp [go_sem], by simp <;> omega⟩ hm2
  clear hm2 mz
  have Or := Qr
  obtain ⟨⟨cr0, cr1, cr2, cr3, cr4, cr5⟩, fr, sr⟩ := Or
  have fr := fun o => fr o
  have sxr : w.heap.size + 1 < w2.heap.size + 1 := by omega
  have syr : w.heap.size + 1 < w2.heap.size + 1 + 1 := by omega
  have Od := Qd
  obtain ⟨⟨cd0, cd1, cd2, cd3⟩, fd, sd⟩ := Od
  have fd := fun o => fd o
  have sxd : w1.heap.size < w2.heap.size + 1 := by omega
  have syd : w1.heap.size < w2.heap.size + 1 + 1 := by omega
  go_wp2_with fail
  refine (haw _).mono ?_
  rintro e w3 ⟨rfl, hm3⟩
  have mz : Mo w2 w3 := Mo.trans (by repeat (first | with_reducible exact Mo.refl _ | with_reducible apply Mo.drew | with_reducible apply Mo.alloc)) hm3
  have zw2r := sr
  have zw2d := sd
  clear cr0 cr1 cr2 cr3 cr4 cr5 fr sr sxr syr cd0 cd1 cd2 cd3 fd sd sxd syd
  have Qr := Qr.mo mz
  have Qd := Qd.mo mz
  have M := M.trans mz
  have Qq : AtN w3 (w2.heap.size) q := AtN.mo ⟨by simp [At4, go_sem], fun o => by simp [go_sem], by simp <;> omega⟩ hm3
  have Qt : AtN w3 (w2.heap.size + 1) r := AtN.mo ⟨by simp [At4, go_sem], fun o => by simp [go_sem], by simp <;> omega⟩ hm3
  clear hm3 mz
  have Or := Qr
  obtain ⟨⟨cr0, cr1, cr2, cr3, cr4, cr5⟩, fr, sr⟩ := Or
  have fr := fun o => fr o
  have sxr : w.heap.size + 1 < w3.heap.size + 1 := by omega
  have syr : w.heap.size + 1 < w3.heap.size + 1 + 1 := by omega
  have Od := Qd
  obtain ⟨⟨cd0, cd1, cd2, cd3⟩, fd, sd⟩ := Od
  have fd := fun o => fd o
  have sxd : w1.heap.size < w3.heap.size + 1 := by omega
  have syd : w1.heap.size < w3.heap.size + 1 + 1 := by omega
  have Oq := Qq
  obtain ⟨⟨cq0, cq1, cq2, cq3⟩, fq, sq⟩ := Oq
  have fq := fun o => fq o
  have sxq : w2.heap.size < w3.heap.size + 1 := by omega
  have syq : w2.heap.size < w3.heap.size + 1 + 1 := by omega
  have Ot := Qt
  obtain ⟨⟨ct0, ct1, ct2, ct3⟩, ft, st⟩ := Ot
  have ft := fun o => ft o
  have sxt : w2.heap.size + 1 < w3.heap.size + 1 := by omega
  have syt : w2.heap.size + 1 < w3.heap.size + 1 + 1 := by omega
  go_upto_region 7 with fail
  have HO : Hid (ov (q + 1) = false) := decide_eq_false (by omega)
  go_cut [16] from 43 to 48 (fun s16 wx => s16 = .bool false ∧ Mo w wx ∧ AtN wx w2.heap.size (q + 1) ∧ AtD wx (w.heap.size + 1) false 0 0)
  case first =>
    go_region_with
      (first | (go_at_call 56; refine (from20_any 1 _ ⟨by decide, by decide⟩).mono ?_; rintro e w5 ⟨rfl, hm5⟩; have m5 : Mo w3 w5 := Mo.trans (by repeat (first | with_reducible exact Mo.refl _ | with_reducible apply Mo.drew | with_reducible apply Mo.alloc)) hm5; obtain ⟨⟨x0, x1, x2, x3⟩, _, xs⟩ := Qq.mo m5) | (go_at_call 60; refine (add_n q 1 _ q0 q1 (by decide) (by decide)).mono ?_; rintro e w6 ⟨rfl, hm6⟩; have m6 : Mo w5 w6 := Mo.trans (by repeat (first | with_reducible exact Mo.refl _ | with_reducible apply Mo.drew | with_reducible apply Mo.alloc)) hm6; have m7 := m5.trans m6; obtain ⟨⟨z0, z1, z2, z3⟩, zf, zs⟩ := Qq.mo m7; have zf := fun o => zf o))
    all_goals
      go_wp2
      go_meet
      case rel => exact ⟨by rw [HO.out], (M.trans m7).st4 (by omega) _, (Qq.mo m7).same _, ((((Qr.mo m7).setD (by omega) _ _).setD (by omega) _ _).setD (by omega) _ _).setD (by omega) _ _⟩
  case rest =>
    clear cr0 cr1 cr2 cr3 cr4 cr5 fr sr sxr syr cd0 cd1 cd2 cd3 fd sd sxd syd cq0 cq1 cq2 cq3 fq sq sxq syq ct0 ct1 ct2 ct3 ft st sxt syt Qr Qd Qq Qt M
    obtain ⟨rfl, M, Qq, Qr⟩ := hcut
    have zr := Qr.2.2
    have zq := Qq.2.2
    have Oq := Qq
    obtain ⟨⟨cq0, cq1, cq2, cq3⟩, fq, sq⟩ := Oq
    have fq := fun o => fq o
    have sxq : w2.heap.size < wc.heap.size + 1 := by omega
    have syq : w2.heap.size < wc.heap.size + 1 + 1 := by omega
    have Or := Qr
    obtain ⟨⟨cr0, cr1, cr2, cr3, cr4, cr5⟩, fr, sr⟩ := Or
    have fr := fun o => fr o
    have sxr : w.heap.size + 1 < wc.heap.size + 1 := by omega
    have syr : w.heap.size + 1 < wc.heap.size + 1 + 1 := by omega
    go_wp2_with fail
    refine (signed_n b (q + 1) S _ (by omega) hq1).mono ?_
    rintro e w7 ⟨rfl, hm7⟩
    have mz : Mo wc w7 := Mo.trans (by repeat (first | with_reducible exact Mo.refl _ | with_reducible apply Mo.drew | with_reducible apply Mo.alloc)) hm7
    have zwcq := sq
    have zwcr := sr
    clear cq0 cq1 cq2 cq3 fq sq sxq syq cr0 cr1 cr2 cr3 cr4 cr5 fr sr sxr syr
    have Qq := Qq.mo mz
    have Qr := Qr.mo mz
    have M := M.trans mz
    clear hm7 mz
    have Oq := Qq
    obtain ⟨⟨cq0, cq1, cq2, cq3⟩, fq, sq⟩ := Oq
    have fq := fun o => fq o
    have sxq : w2.heap.size < w7.heap.size + 1 := by omega
    have syq : w2.heap.size < w7.heap.size + 1 + 1 := by omega
    have Or := Qr
    obtain ⟨⟨cr0, cr1, cr2, cr3, cr4, cr5⟩, fr, sr⟩ := Or
    have fr := fun o => fr o
    have sxr : w.heap.size + 1 < w7.heap.size + 1 := by omega
    have syr : w.heap.size + 1 < w7.heap.size + 1 + 1 := by omega
    go_wp2
    refine bodyPost_ret (v := .tuple #[dc (b && !decide (q + 1 = 0)) (q + 1) S, .int .i64 0]) (by simp [results, Try.results89, go_sem, *]) rfl ?_
    refine ⟨rfl, ?_⟩
    repeat (first | with_reducible exact M | with_reducible exact Mo.refl _ | with_reducible apply Mo.drew | with_reducible apply Mo.drewN | with_reducible apply Mo.alloc | with_reducible refine Mo.setCell ?_ (by simp <;> omega) _)
set_option maxHeartbeats 4000000 in
theorem shorten_over (b : Bool) (X S p : Int) (k : Nat) (w : World) (hX0 : 0 ≤ X) (hX : X < MM * MM) (hk : k ≤ 36) (_hp1 : 1 ≤ p) (_hp5 : p ≤ 5) (h : X / MM < 10 ^ k) (ha : aw b (X / 10 ^ k) (X % 10 ^ k) (10 ^ k) p = true) (hq1 : MM ≤ X / 10 ^ k + 1) :
    Calls Try.prog 89 #[.bool b, dw X, .int .i64 (k : Int), .int .i64 S, .int .i64 p] w fun e w' => e = .returned (er 7) ∧ Mo w w' := by
  have t := ten_bd k (by omega)
  have t2 : (10 : Int) ^ k + 10 ^ k < MM := by
    have h1 : (10 : Nat) ^ k ≤ 10 ^ 36 := Nat.pow_le_pow_right (by decide) hk
    have h2 : (10 : Nat) ^ 36 + 10 ^ 36 < 115792089237316195423570985008687907853269984665640564039457584007913129639936 := by decide
    have h3 : ((10 ^ k : Nat) : Int) = (10 : Int) ^ k := by rw [Int.natCast_pow]; rfl
    rw [← h3]
    unfold MM
    omega
  have hten0 : ∀ w, Calls Try.prog 74 #[.int .i64 (k : Int)] w fun e w' => e = .returned (nv (10 ^ k)) ∧ Mo w w' := fun w => dten_n k w (by omega)
  generalize (10 : Int) ^ k = d at *
  have hten := hten0
  clear hten0
  obtain ⟨t0, t1⟩ := t
  have hdiv : ∀ w, Calls Try.prog 18 #[nv (X / MM), nv X, nv d] w fun e w' => e = .returned (.tuple #[nv (X / d), nv (X % d), .bool true]) ∧ Mo w w' := fun w => div_x_ok X d w hX0 hX (by omega) t1 h
  have q0 : 0 ≤ X / d := Int.ediv_nonneg hX0 (by omega)
  have q1 : X / d < MM := by
    apply Int.ediv_lt_of_lt_mul t0
    have a := Int.lt_ediv_add_one_mul_self X (show (0 : Int) < MM by decide)
    have b := Int.mul_le_mul_of_nonneg_right (show X / MM + 1 ≤ d by omega) (show (0 : Int) ≤ MM by decide)
    rw [Int.mul_comm MM]
    omega
  have r0 : 0 ≤ X % d := Int.emod_nonneg _ (by omega)
  have r1 : X % d < d := Int.emod_lt_of_pos _ t0
  generalize X / d = q at *
  generalize X % d = r at *
  have haw : ∀ w, Calls Try.prog 102 #[.bool b, nv q, nv r, nv d, .int .i64 p] w fun e w' => e = .returned (.bool true) ∧ Mo w w' := fun w => by
    have := isAway_n b q r d p w q0 q1 r0 (by omega) (by omega) t1 _hp1 _hp5
    rw [ha] at this
    exact this
  clear ha h
  go_enter Try.func89, Try.ntmps89
  go_wp2_with fail
  refine (hten _).mono ?_
  rintro e w1 ⟨rfl, hm1⟩
  have mz : Mo w w1 := Mo.trans (by repeat (first | with_reducible exact Mo.refl _ | with_reducible apply Mo.drew | with_reducible apply Mo.alloc)) hm1
  have M := mz
  have Qx : AtW w1 (w.heap.size) X := AtW.mo ⟨by simp [go_sem], fun o => by simp [go_sem], by simp <;> omega⟩ hm1
  have Qr : AtD w1 (w.heap.size + 1) false 0 0 := AtD.mo ⟨by simp [go_sem, zl0, zl1, zl2, zl3], fun o => by simp [go_sem], by simp <;> omega⟩ hm1
  clear hm1 mz
  have Ox := Qx
  obtain ⟨⟨cx0, cx1, cx2, cx3, cx4, cx5, cx6, cx7⟩, fx, sx⟩ := Ox
  have fx := fun o => fx o
  have sxx : w.heap.size < w1.heap.size + 1 := by omega
  have syx : w.heap.size < w1.heap.size + 1 + 1 := by omega
  have Or := Qr
  obtain ⟨⟨cr0, cr1, cr2, cr3, cr4, cr5⟩, fr, sr⟩ := Or
  have fr := fun o => fr o
  have sxr : w.heap.size + 1 < w1.heap.size + 1 := by omega
  have syr : w.heap.size + 1 < w1.heap.size + 1 + 1 := by omega
  go_wp2_with fail
  refine (hdiv _).mono ?_
  rintro e w2 ⟨rfl, hm2⟩
  have mz : Mo w1 w2 := Mo.trans (by repeat (first | with_reducible exact Mo.refl _ | with_reducible apply Mo.drew | with_reducible apply Mo.alloc)) hm2
  have zw1x := sx
  have zw1r := sr
  clear cx0 cx1 cx2 cx3 cx4 cx5 cx6 cx7 fx sx sxx syx cr0 cr1 cr2 cr3 cr4 cr5 fr sr sxr syr
  clear Qx
  have Qr := Qr.mo mz
  have M := M.trans mz
  have Qd : AtN w2 (w1.heap.size) d := AtN.mo ⟨by simp [At4, go_sem], fun o => by simp [go_sem], by simp <;> omega⟩ hm2
  clear hm2 mz
  have Or := Qr
  obtain ⟨⟨cr0, cr1, cr2, cr3, cr4, cr5⟩, fr, sr⟩ := Or
  have fr := fun o => fr o
  have sxr : w.heap.size + 1 < w2.heap.size + 1 := by omega
  have syr : w.heap.size + 1 < w2.heap.size + 1 + 1 := by omega
  have Od := Qd
  obtain ⟨⟨cd0, cd1, cd2, cd3⟩, fd, sd⟩ := Od
  have fd := fun o => fd o
  have sxd : w1.heap.size < w2.heap.size + 1 := by omega
  have syd : w1.heap.size < w2.heap.size + 1 + 1 := by omega
  go_wp2_with fail
  refine (haw _).mono ?_
  rintro e w3 ⟨rfl, hm3⟩
  have mz : Mo w2 w3 := Mo.trans (by repeat (first | with_reducible exact Mo.refl _ | with_reducible apply Mo.drew | with_reducible apply Mo.alloc)) hm3
  have zw2r := sr
  have zw2d := sd
  clear cr0 cr1 cr2 cr3 cr4 cr5 fr sr sxr syr cd0 cd1 cd2 cd3 fd sd sxd syd
  have Qr := Qr.mo mz
  have Qd := Qd.mo mz
  have M := M.trans mz
  have Qq : AtN w3 (w2.heap.size) q := AtN.mo ⟨by simp [At4, go_sem], fun o => by simp [go_sem], by simp <;> omega⟩ hm3
  have Qt : AtN w3 (w2.heap.size + 1) r := AtN.mo ⟨by simp [At4, go_sem], fun o => by simp [go_sem], by simp <;> omega⟩ hm3
  clear hm3 mz
  have Or := Qr
  obtain ⟨⟨cr0, cr1, cr2, cr3, cr4, cr5⟩, fr, sr⟩ := Or
  have fr := fun o => fr o
  have sxr : w.heap.size + 1 < w3.heap.size + 1 := by omega
  have syr : w.heap.size + 1 < w3.heap.size + 1 + 1 := by omega
  have Od := Qd
  obtain ⟨⟨cd0, cd1, cd2, cd3⟩, fd, sd⟩ := Od
  have fd := fun o => fd o
  have sxd : w1.heap.size < w3.heap.size + 1 := by omega
  have syd : w1.heap.size < w3.heap.size + 1 + 1 := by omega
  have Oq := Qq
  obtain ⟨⟨cq0, cq1, cq2, cq3⟩, fq, sq⟩ := Oq
  have fq := fun o => fq o
  have sxq : w2.heap.size < w3.heap.size + 1 := by omega
  have syq : w2.heap.size < w3.heap.size + 1 + 1 := by omega
  have Ot := Qt
  obtain ⟨⟨ct0, ct1, ct2, ct3⟩, ft, st⟩ := Ot
  have ft := fun o => ft o
  have sxt : w2.heap.size + 1 < w3.heap.size + 1 := by omega
  have syt : w2.heap.size + 1 < w3.heap.size + 1 + 1 := by omega
  go_upto_region 7 with fail
  have HO : Hid (ov (q + 1) = true) := decide_eq_true (by omega)
  go_cut [16] from 43 to 48 (fun s16 wx => s16 = .bool true ∧ Mo w wx ∧ AtN wx w2.heap.size (q + 1) ∧ AtD wx (w.heap.size + 1) false 0 0)
  case first =>
    go_region_with
      (first | (go_at_call 56; refine (from20_any 1 _ ⟨by decide, by decide⟩).mono ?_; rintro e w5 ⟨rfl, hm5⟩; have m5 : Mo w3 w5 := Mo.trans (by repeat (first | with_reducible exact Mo.refl _ | with_reducible apply Mo.drew | with_reducible apply Mo.alloc)) hm5; obtain ⟨⟨x0, x1, x2, x3⟩, _, xs⟩ := Qq.mo m5) | (go_at_call 60; refine (add_n q 1 _ q0 q1 (by decide) (by decide)).mono ?_; rintro e w6 ⟨rfl, hm6⟩; have m6 : Mo w5 w6 := Mo.trans (by repeat (first | with_reducible exact Mo.refl _ | with_reducible apply Mo.drew | with_reducible apply Mo.alloc)) hm6; have m7 := m5.trans m6; obtain ⟨⟨z0, z1, z2, z3⟩, zf, zs⟩ := Qq.mo m7; have zf := fun o => zf o))
    all_goals
      go_wp2
      go_meet
      case rel => exact ⟨by rw [HO.out], (M.trans m7).st4 (by omega) _, (Qq.mo m7).same _, ((((Qr.mo m7).setD (by omega) _ _).setD (by omega) _ _).setD (by omega) _ _).setD (by omega) _ _⟩
  case rest =>
    clear cr0 cr1 cr2 cr3 cr4 cr5 fr sr sxr syr cd0 cd1 cd2 cd3 fd sd sxd syd cq0 cq1 cq2 cq3 fq sq sxq syq ct0 ct1 ct2 ct3 ft st sxt syt Qr Qd Qq Qt M
    obtain ⟨rfl, M, Qq, Qr⟩ := hcut
    have zr := Qr.2.2
    have zq := Qq.2.2
    have Oq := Qq
    obtain ⟨⟨cq0, cq1, cq2, cq3⟩, fq, sq⟩ := Oq
    have fq := fun o => fq o
    have sxq : w2.heap.size < wc.heap.size + 1 := by omega
    have syq : w2.heap.size < wc.heap.size + 1 + 1 := by omega
    have Or := Qr
    obtain ⟨⟨cr0, cr1, cr2, cr3, cr4, cr5⟩, fr, sr⟩ := Or
    have fr := fun o => fr o
    have sxr : w.heap.size + 1 < wc.heap.size + 1 := by omega
    have syr : w.heap.size + 1 < wc.heap.size + 1 + 1 := by omega
    go_wp2
    refine bodyPost_ret (v := er 7) (by simp [results, Try.results89, go_sem, *]) rfl ?_
    refine ⟨rfl, ?_⟩
    repeat (first | with_reducible exact M | with_reducible exact Mo.refl _ | with_reducible apply Mo.drew | with_reducible apply Mo.drewN | with_reducible apply Mo.alloc | with_reducible refine Mo.setCell ?_ (by simp <;> omega) _)
end Go.Proofs.Ytoiiekmkcpcbgaa
/-
  decimal.shorten by whole numbers.
-/
namespace Go.Proofs.Ytoiiekmkcpcbgaa
open Go.RowKit
/-- A size with a sign. -/
def sv (b : Bool) (V : Int) : Int := if b then -V else V
theorem ab_sv {b : Bool} {V : Int} (h : 0 ≤ V) : ab (sv b V) = V := by unfold ab sv; cases b <;> simp <;> omega
theorem neg_sv {b : Bool} {V : Int} (h : 0 ≤ V) : decide (sv b V < 0) = (b && !decide (V = 0)) := by
  unfold sv
  cases b
  · simp; omega
  · rw [Bool.eq_iff_iff]; simp; omega
/-- A size rounded: what a number by ten to the k is, by the policy. -/
def ro (b : Bool) (X : Int) (k : Nat) (p : Int) : Int := X / 10 ^ k + if aw b (X / 10 ^ k) (X % 10 ^ k) (10 ^ k) p then 1 else 0
theorem ro_nn {b : Bool} {X : Int} {k : Nat} {p : Int} (h : 0 ≤ X) : 0 ≤ ro b X k p := by
  have := Int.ediv_nonneg h (show (0 : Int) ≤ 10 ^ k from Int.le_of_lt (Int.pow_pos (by decide)))
  unfold ro; split <;> omega
theorem dc_sv {b : Bool} {V s : Int} (h : 0 ≤ V) : dc (b && !decide (V = 0)) V s = dz (sv b V) s := by rw [dz, ab_sv h, neg_sv h]
theorem shorten_room (b : Bool) (X S p : Int) (k : Nat) (w : World) (hX0 : 0 ≤ X) (hX : X < MM * MM) (hk : k ≤ 36) (hp1 : 1 ≤ p) (hp5 : p ≤ 5) (h : ro b X k p < MM) :
    Calls Try.prog 89 #[.bool b, dx X, .int .i64 (k : Int), .int .i64 S, .int .i64 p] w fun e w' => e = .returned (.tuple #[dz (sv b (ro b X k p)) S, .int .i64 0]) ∧ Mo w w' := by
  have t := (ten_bd k (by omega)).1
  have hq : X / 10 ^ k < MM := by unfold ro at h; split at h <;> omega
  have hl : X / MM < 10 ^ k := by
    apply Int.ediv_lt_of_lt_mul (by decide)
    have a := Int.lt_ediv_add_one_mul_self X t
    have b := Int.mul_le_mul_of_nonneg_right (show X / 10 ^ k + 1 ≤ MM by omega) (Int.le_of_lt t)
    rw [Int.mul_comm (10 ^ k)]
    omega
  rw [← dc_sv (ro_nn hX0)]
  unfold ro at h ⊢
  cases ha : aw b (X / 10 ^ k) (X % 10 ^ k) (10 ^ k) p
  · simp only [Bool.false_eq_true, if_false, Int.add_zero]
    exact shorten_stay b X S p k w hX0 hX hk hp1 hp5 hl ha
  · rw [ha] at h
    simp only [if_true] at h ⊢
    exact shorten_up b X S p k w hX0 hX hk hp1 hp5 hl ha h
theorem shorten_full (b : Bool) (X S p : Int) (k : Nat) (w : World) (hX0 : 0 ≤ X) (hX : X < MM * MM) (hk : k ≤ 36) (hp1 : 1 ≤ p) (hp5 : p ≤ 5) (h : MM ≤ ro b X k p) :
    Calls Try.prog 89 #[.bool b, dx X, .int .i64 (k : Int), .int .i64 S, .int .i64 p] w fun e w' => e = .returned (er 7) ∧ Mo w w' := by
  have t := (ten_bd k (by omega)).1
  by_cases hl : X / MM < 10 ^ k
  · have hq : X / 10 ^ k < MM := by
      apply Int.ediv_lt_of_lt_mul t
      have a := Int.lt_ediv_add_one_mul_self X (show (0 : Int) < MM by decide)
      have b := Int.mul_le_mul_of_nonneg_right (show X / MM + 1 ≤ 10 ^ k by omega) (show (0 : Int) ≤ MM by decide)
      rw [Int.mul_comm MM]
      omega
    unfold ro at h
    cases ha : aw b (X / 10 ^ k) (X % 10 ^ k) (10 ^ k) p
    · rw [ha] at h
      simp at h
      omega
    · rw [ha] at h
      simp only [if_true] at h
      exact shorten_over b X S p k w hX0 hX hk hp1 hp5 hl ha h
  · exact shorten_no b X S p k w hX0 hX (by omega) hp1 hp5 (by omega)
theorem fit_room (b : Bool) (X s : Int) (w : World) (hX0 : 0 ≤ X) (hX : X < MM) :
    Calls Try.prog 77 #[.bool b, dx X, .int .i64 s] w fun e w' => e = .returned (.tuple #[dz (sv b X) s, .int .i64 0]) ∧ Mo w w' := by
  rw [← dc_sv hX0]; exact fit_yes b X s w hX0 hX
theorem fit_full (b : Bool) (X s : Int) (w : World) (hX0 : MM ≤ X) (hX : X < MM * MM) :
    Calls Try.prog 77 #[.bool b, dx X, .int .i64 s] w fun e w' => e = .returned (er 7) ∧ Mo w w' := fit_no b X s w hX0 hX
theorem AtX.cells {w : World} {k : Nat} {X : Int} (h : AtX w k X) : w.cell? ⟨k, 0, none⟩ = some (.int .u64 (l0 (X / MM))) ∧ w.cell? ⟨k, 1, none⟩ = some (.int .u64 (l1 (X / MM))) ∧ w.cell? ⟨k, 2, none⟩ = some (.int .u64 (l2 (X / MM))) ∧ w.cell? ⟨k, 3, none⟩ = some (.int .u64 (l3 (X / MM))) ∧ w.cell? ⟨k, 4, none⟩ = some (.int .u64 (l0 X)) ∧ w.cell? ⟨k, 5, none⟩ = some (.int .u64 (l1 X)) ∧ w.cell? ⟨k, 6, none⟩ = some (.int .u64 (l2 X)) ∧ w.cell? ⟨k, 7, none⟩ = some (.int .u64 (l3 X)) := by
  have c := fun j v hv => h.1 j v hv
  simp only [Nat.zero_add] at c
  exact ⟨c 0 _ rfl, c 1 _ rfl, c 2 _ rfl, c 3 _ rfl, c 4 _ rfl, c 5 _ rfl, c 6 _ rfl, c 7 _ rfl⟩
end Go.Proofs.Ytoiiekmkcpcbgaa
/-
  decimal.MulTo: the walk.
-/
namespace Go.Proofs.Ytoiiekmkcpcbgaa
open Go.RowKit
theorem prod_bd {n m : Int} (hn0 : 0 ≤ n) (hn : n < MM) (hm0 : 0 ≤ m) (hm : m < MM) : 0 ≤ n * m ∧ n * m < MM * MM := by
  refine ⟨Int.mul_nonneg hn0 hm0, ?_⟩
  have a : n * m ≤ n * MM := Int.mul_le_mul_of_nonneg_left (by omega) hn0
  have b : n * MM < MM * MM := Int.mul_lt_mul_of_pos_right hn (by decide)
  omega
theorem T81.mk2 {w w' : World} (m : Mo (w.alloc (.cells #[.int .u64 0, .int .u64 0, .int .u64 0, .int .u64 0, .int .u64 0, .int .u64 0, .int .u64 0, .int .u64 0] 81)) w') : w'.there w.heap.size 0 8 ∧ w.heap.size < w'.heap.size :=
  ⟨m.there (there_new w) (by simp), by have := m.size; simp at this; omega⟩
theorem T81.mk1 {w w' : World} (m : Mo ((w.alloc (.cells #[.int .u64 0, .int .u64 0, .int .u64 0, .int .u64 0, .int .u64 0, .int .u64 0, .int .u64 0, .int .u64 0] 81)).drew) w') : w'.there w.heap.size 0 8 ∧ w.heap.size < w'.heap.size := T81.mk2 ((Mo.refl _).drew.trans m)
theorem cell_sc (w : World) (k j o : Nat) (l : List Value) (h : ¬ j = k) : (w.setCells k 0 l).cell? ⟨j, o, none⟩ = w.cell? ⟨j, o, none⟩ := World.cell?_setCells_out k l 0 w _ (fun hb _ => absurd hb h)
set_option maxHeartbeats 4000000 in
theorem mulTo_e1 (b c : Bool) (n m s t S p : Int) (w : World) (hn0 : 0 ≤ n) (hn : n < MM) (hm0 : 0 ≤ m) (hm : m < MM) (h : ¬ (ck b n s = 0 ∧ ck c m t = 0)) :
    Calls Try.prog 41 #[dc b n s, dc c m t, .int .i64 S, .int .i64 p] w fun e w' => e = .returned (er 20) ∧ Mo w w' := by
  go_enter Try.func41, Try.ntmps41
  go_wp2_with fail
  refine (both_no b n s c m t _ hn0 hn hm0 hm h).mono ?_
  rintro e w1 ⟨rfl, hm1⟩
  have mz : Mo w w1 := Mo.trans (by repeat (first | with_reducible exact Mo.refl _ | with_reducible apply Mo.drew | with_reducible apply Mo.alloc)) hm1
  have M := mz
  have Qa : AtD w1 (w.heap.size) b n s := AtD.mo ⟨by simp [go_sem], fun o => by simp [go_sem], by simp <;> omega⟩ hm1
  have Qb : AtD w1 (w.heap.size + 1) c m t := AtD.mo ⟨by simp [go_sem], fun o => by simp [go_sem], by simp <;> omega⟩ hm1
  have Qr : AtD w1 (w.heap.size + 1 + 1) false 0 0 := AtD.mo ⟨by simp [go_sem, zl0, zl1, zl2, zl3], fun o => by simp [go_sem], by simp <;> omega⟩ hm1
  clear hm1 mz
  have Oa := Qa
  obtain ⟨⟨ca0, ca1, ca2, ca3, ca4, ca5⟩, fa, sa⟩ := Oa
  have fa := fun o => fa o
  have sxa : w.heap.size < w1.heap.size + 1 := by omega
  have sya : w.heap.size < w1.heap.size + 1 + 1 := by omega
  have Ob := Qb
  obtain ⟨⟨cb0, cb1, cb2, cb3, cb4, cb5⟩, fb, sb⟩ := Ob
  have fb := fun o => fb o
  have sxb : w.heap.size + 1 < w1.heap.size + 1 := by omega
  have syb : w.heap.size + 1 < w1.heap.size + 1 + 1 := by omega
  have Or := Qr
  obtain ⟨⟨cr0, cr1, cr2, cr3, cr4, cr5⟩, fr, sr⟩ := Or
  have fr := fun o => fr o
  have sxr : w.heap.size + 1 + 1 < w1.heap.size + 1 := by omega
  have syr : w.heap.size + 1 + 1 < w1.heap.size + 1 + 1 := by omega
  go_wp2
  refine bodyPost_ret (v := er 20) (by simp [results, Try.results41, go_sem, *]) rfl ?_
  refine ⟨rfl, ?_⟩
  repeat (first | with_reducible exact M | with_reducible exact Mo.refl _ | with_reducible apply Mo.drew | with_reducible apply Mo.drewN | with_reducible apply Mo.alloc | with_reducible refine Mo.setCell ?_ (by simp <;> omega) _)
set_option maxHeartbeats 4000000 in
theorem mulTo_e2 (b c : Bool) (n m s t S p : Int) (w : World) (hn0 : 0 ≤ n) (hn : n < MM) (hm0 : 0 ≤ m) (hm : m < MM) (h1 : ck b n s = 0) (h2 : ck c m t = 0) (hS : sc S = false) :
    Calls Try.prog 41 #[dc b n s, dc c m t, .int .i64 S, .int .i64 p] w fun e w' => e = .returned (er 21) ∧ Mo w w' := by
  go_enter Try.func41, Try.ntmps41
  go_wp2_with fail
  refine (both_ok b n s c m t _ hn0 hn hm0 hm h1 h2).mono ?_
  rintro e w1 ⟨rfl, hm1⟩
  have mz : Mo w w1 := Mo.trans (by repeat (first | with_reducible exact Mo.refl _ | with_reducible apply Mo.drew | with_reducible apply Mo.alloc)) hm1
  have M := mz
  have Qa : AtD w1 (w.heap.size) b n s := AtD.mo ⟨by simp [go_sem], fun o => by simp [go_sem], by simp <;> omega⟩ hm1
  have Qb : AtD w1 (w.heap.size + 1) c m t := AtD.mo ⟨by simp [go_sem], fun o => by simp [go_sem], by simp <;> omega⟩ hm1
  have Qr : AtD w1 (w.heap.size + 1 + 1) false 0 0 := AtD.mo ⟨by simp [go_sem, zl0, zl1, zl2, zl3], fun o => by simp [go_sem], by simp <;> omega⟩ hm1
  clear hm1 mz
  have Oa := Qa
  obtain ⟨⟨ca0, ca1, ca2, ca3, ca4, ca5⟩, fa, sa⟩ := Oa
  have fa := fun o => fa o
  have sxa : w.heap.size < w1.heap.size + 1 := by omega
  have sya : w.heap.size < w1.heap.size + 1 + 1 := by omega
  have Ob := Qb
  obtain ⟨⟨cb0, cb1, cb2, cb3, cb4, cb5⟩, fb, sb⟩ := Ob
  have fb := fun o => fb o
  have sxb : w.heap.size + 1 < w1.heap.size + 1 := by omega
  have syb : w.heap.size + 1 < w1.heap.size + 1 + 1 := by omega
  have Or := Qr
  obtain ⟨⟨cr0, cr1, cr2, cr3, cr4, cr5⟩, fr, sr⟩ := Or
  have fr := fun o => fr o
  have sxr : w.heap.size + 1 + 1 < w1.heap.size + 1 := by omega
  have syr : w.heap.size + 1 + 1 < w1.heap.size + 1 + 1 := by omega
  go_wp2_with fail
  refine (cr_no S p _ hS).mono ?_
  rintro e w2 ⟨rfl, hm2⟩
  have mz : Mo w1 w2 := Mo.trans (by repeat (first | with_reducible exact Mo.refl _ | with_reducible apply Mo.drew | with_reducible apply Mo.alloc)) hm2
  have zw1a := sa
  have zw1b := sb
  have zw1r := sr
  clear ca0 ca1 ca2 ca3 ca4 ca5 fa sa sxa sya cb0 cb1 cb2 cb3 cb4 cb5 fb sb sxb syb cr0 cr1 cr2 cr3 cr4 cr5 fr sr sxr syr
  have Qa := Qa.mo mz
  have Qb := Qb.mo mz
  have Qr := Qr.mo mz
  have M := M.trans mz
  clear hm2 mz
  have Oa := Qa
  obtain ⟨⟨ca0, ca1, ca2, ca3, ca4, ca5⟩, fa, sa⟩ := Oa
  have fa := fun o => fa o
  have sxa : w.heap.size < w2.heap.size + 1 := by omega
  have sya : w.heap.size < w2.heap.size + 1 + 1 := by omega
  have Ob := Qb
  obtain ⟨⟨cb0, cb1, cb2, cb3, cb4, cb5⟩, fb, sb⟩ := Ob
  have fb := fun o => fb o
  have sxb : w.heap.size + 1 < w2.heap.size + 1 := by omega
  have syb : w.heap.size + 1 < w2.heap.size + 1 + 1 := by omega
  have Or := Qr
  obtain ⟨⟨cr0, cr1, cr2, cr3, cr4, cr5⟩, fr, sr⟩ := Or
  have fr := fun o => fr o
  have sxr : w.heap.size + 1 + 1 < w2.heap.size + 1 := by omega
  have syr : w.heap.size + 1 + 1 < w2.heap.size + 1 + 1 := by omega
  go_wp2
  refine bodyPost_ret (v := er 21) (by simp [results, Try.results41, go_sem, *]) rfl ?_
  refine ⟨rfl, ?_⟩
  repeat (first | with_reducible exact M | with_reducible exact Mo.refl _ | with_reducible apply Mo.drew | with_reducible apply Mo.drewN | with_reducible apply Mo.alloc | with_reducible refine Mo.setCell ?_ (by simp <;> omega) _)
set_option maxHeartbeats 4000000 in
theorem mulTo_e3 (b c : Bool) (n m s t S p : Int) (w : World) (hn0 : 0 ≤ n) (hn : n < MM) (hm0 : 0 ≤ m) (hm : m < MM) (h1 : ck b n s = 0) (h2 : ck c m t = 0) (hS : sc S = true) (hp : p < 1 ∨ 5 < p) :
    Calls Try.prog 41 #[dc b n s, dc c m t, .int .i64 S, .int .i64 p] w fun e w' => e = .returned (er 22) ∧ Mo w w' := by
  go_enter Try.func41, Try.ntmps41
  go_wp2_with fail
  refine (both_ok b n s c m t _ hn0 hn hm0 hm h1 h2).mono ?_
  rintro e w1 ⟨rfl, hm1⟩
  have mz : Mo w w1 := Mo.trans (by repeat (first | with_reducible exact Mo.refl _ | with_reducible apply Mo.drew | with_reducible apply Mo.alloc)) hm1
  have M := mz
  have Qa : AtD w1 (w.heap.size) b n s := AtD.mo ⟨by simp [go_sem], fun o => by simp [go_sem], by simp <;> omega⟩ hm1
  have Qb : AtD w1 (w.heap.size + 1) c m t := AtD.mo ⟨by simp [go_sem], fun o => by simp [go_sem], by simp <;> omega⟩ hm1
  have Qr : AtD w1 (w.heap.size + 1 + 1) false 0 0 := AtD.mo ⟨by simp [go_sem, zl0, zl1, zl2, zl3], fun o => by simp [go_sem], by simp <;> omega⟩ hm1
  clear hm1 mz
  have Oa := Qa
  obtain ⟨⟨ca0, ca1, ca2, ca3, ca4, ca5⟩, fa, sa⟩ := Oa
  have fa := fun o => fa o
  have sxa : w.heap.size < w1.heap.size + 1 := by omega
  have sya : w.heap.size < w1.heap.size + 1 + 1 := by omega
  have Ob := Qb
  obtain ⟨⟨cb0, cb1, cb2, cb3, cb4, cb5⟩, fb, sb⟩ := Ob
  have fb := fun o => fb o
  have sxb : w.heap.size + 1 < w1.heap.size + 1 := by omega
  have syb : w.heap.size + 1 < w1.heap.size + 1 + 1 := by omega
  have Or := Qr
  obtain ⟨⟨cr0, cr1, cr2, cr3, cr4, cr5⟩, fr, sr⟩ := Or
  have fr := fun o => fr o
  have sxr : w.heap.size + 1 + 1 < w1.heap.size + 1 := by omega
  have syr : w.heap.size + 1 + 1 < w1.heap.size + 1 + 1 := by omega
  go_wp2_with fail
  refine (cr_pol S p _ hS hp).mono ?_
  rintro e w2 ⟨rfl, hm2⟩
  have mz : Mo w1 w2 := Mo.trans (by repeat (first | with_reducible exact Mo.refl _ | with_reducible apply Mo.drew | with_reducible apply Mo.alloc)) hm2
  have zw1a := sa
  have zw1b := sb
  have zw1r := sr
  clear ca0 ca1 ca2 ca3 ca4 ca5 fa sa sxa sya cb0 cb1 cb2 cb3 cb4 cb5 fb sb sxb syb cr0 cr1 cr2 cr3 cr4 cr5 fr sr sxr syr
  have Qa := Qa.mo mz
  have Qb := Qb.mo mz
  have Qr := Qr.mo mz
  have M := M.trans mz
  clear hm2 mz
  have Oa := Qa
  obtain ⟨⟨ca0, ca1, ca2, ca3, ca4, ca5⟩, fa, sa⟩ := Oa
  have fa := fun o => fa o
  have sxa : w.heap.size < w2.heap.size + 1 := by omega
  have sya : w.heap.size < w2.heap.size + 1 + 1 := by omega
  have Ob := Qb
  obtain ⟨⟨cb0, cb1, cb2, cb3, cb4, cb5⟩, fb, sb⟩ := Ob
  have fb := fun o => fb o
  have sxb : w.heap.size + 1 < w2.heap.size + 1 := by omega
  have syb : w.heap.size + 1 < w2.heap.size + 1 + 1 := by omega
  have Or := Qr
  obtain ⟨⟨cr0, cr1, cr2, cr3, cr4, cr5⟩, fr, sr⟩ := Or
  have fr := fun o => fr o
  have sxr : w.heap.size + 1 + 1 < w2.heap.size + 1 := by omega
  have syr : w.heap.size + 1 + 1 < w2.heap.size + 1 + 1 := by omega
  go_wp2
  refine bodyPost_ret (v := er 22) (by simp [results, Try.results41, go_sem, *]) rfl ?_
  refine ⟨rfl, ?_⟩
  repeat (first | with_reducible exact M | with_reducible exact Mo.refl _ | with_reducible apply Mo.drew | with_reducible apply Mo.drewN | with_reducible apply Mo.alloc | with_reducible refine Mo.setCell ?_ (by simp <;> omega) _)
set_option maxHeartbeats 8000000 in
theorem mulTo_dn_room (b c : Bool) (n m s t S p : Int) (w : World) (hn0 : 0 ≤ n) (hn : n < MM) (hm0 : 0 ≤ m) (hm : m < MM) (h1 : ck b n s = 0) (h2 : ck c m t = 0) (hS : sc S = true) (hp1 : 1 ≤ p) (hp5 : p ≤ 5) (f : Nat) (hf : s + t - S = (f : Int)) (hf0 : 0 < f) (hf36 : f ≤ 36) (hs : 0 ≤ s ∧ s ≤ 18) (ht : 0 ≤ t ∧ t ≤ 18) (hr : ro (b != c) (n * m) f p < MM) :
    Calls Try.prog 41 #[dc b n s, dc c m t, .int .i64 S, .int .i64 p] w fun e w' => e = .returned (.tuple #[dz (sv (b != c) (ro (b != c) (n * m) f p)) S, .int .i64 0]) ∧ Mo w w' := by
  have bX := prod_bd hn0 hn hm0 hm
  have hsh : ∀ w, Calls Try.prog 89 #[.bool (b != c), dx (n * m), .int .i64 (f : Int), .int .i64 S, .int .i64 p] w fun e w' => e = .returned (.tuple #[dz (sv (b != c) (ro (b != c) (n * m) f p)) S, .int .i64 0]) ∧ Mo w w' := fun w => shorten_room (b != c) (n * m) S p f w bX.1 bX.2 hf36 hp1 hp5 hr
  have hst : IntKind.i64.wrap (s + t) = s + t := by rw [IntKind.wrap_i64]; omega
  have hff : IntKind.i64.wrap (f : Int) = (f : Int) := by rw [IntKind.wrap_i64]; omega
  have hd : decide ((f : Int) > 0) = true := decide_eq_true (by omega)
  have HF : Hid _ := hf
  have HR : Hid _ := hr
  clear bX hf hr
  have hsz := dwa_size
  have rst := st81
  have rn1 := there_new
  have rc := cell_sc
  go_enter Try.func41, Try.ntmps41
  go_wp2_with fail
  refine (both_ok b n s c m t _ hn0 hn hm0 hm h1 h2).mono ?_
  rintro e w1 ⟨rfl, hm1⟩
  have mz : Mo w w1 := Mo.trans (by repeat (first | with_reducible exact Mo.refl _ | with_reducible apply Mo.drew | with_reducible apply Mo.alloc)) hm1
  have M := mz
  have Qa : AtD w1 (w.heap.size) b n s := AtD.mo ⟨by simp [go_sem], fun o => by simp [go_sem], by simp <;> omega⟩ hm1
  have Qb : AtD w1 (w.heap.size + 1) c m t := AtD.mo ⟨by simp [go_sem], fun o => by simp [go_sem], by simp <;> omega⟩ hm1
  have Qr : AtD w1 (w.heap.size + 1 + 1) false 0 0 := AtD.mo ⟨by simp [go_sem, zl0, zl1, zl2, zl3], fun o => by simp [go_sem], by simp <;> omega⟩ hm1
  clear hm1 mz
  have Oa := Qa
  obtain ⟨⟨ca0, ca1, ca2, ca3, ca4, ca5⟩, fa, sa⟩ := Oa
  have fa := fun o => fa o
  have sxa : w.heap.size < w1.heap.size + 1 := by omega
  have sya : w.heap.size < w1.heap.size + 1 + 1 := by omega
  have Ob := Qb
  obtain ⟨⟨cb0, cb1, cb2, cb3, cb4, cb5⟩, fb, sb⟩ := Ob
  have fb := fun o => fb o
  have sxb : w.heap.size + 1 < w1.heap.size + 1 := by omega
  have syb : w.heap.size + 1 < w1.heap.size + 1 + 1 := by omega
  have Or := Qr
  obtain ⟨⟨cr0, cr1, cr2, cr3, cr4, cr5⟩, fr, sr⟩ := Or
  have fr := fun o => fr o
  have sxr : w.heap.size + 1 + 1 < w1.heap.size + 1 := by omega
  have syr : w.heap.size + 1 + 1 < w1.heap.size + 1 + 1 := by omega
  go_wp2_with fail
  refine (cr_ok S p _ hS hp1 hp5).mono ?_
  rintro e w2 ⟨rfl, hm2⟩
  have mz : Mo w1 w2 := Mo.trans (by repeat (first | with_reducible exact Mo.refl _ | with_reducible apply Mo.drew | with_reducible apply Mo.alloc)) hm2
  have zw1a := sa
  have zw1b := sb
  have zw1r := sr
  clear ca0 ca1 ca2 ca3 ca4 ca5 fa sa sxa sya cb0 cb1 cb2 cb3 cb4 cb5 fb sb sxb syb cr0 cr1 cr2 cr3 cr4 cr5 fr sr sxr syr
  have Qa := Qa.mo mz
  have Qb := Qb.mo mz
  have Qr := Qr.mo mz
  have M := M.trans mz
  clear hm2 mz
  have Oa := Qa
  obtain ⟨⟨ca0, ca1, ca2, ca3, ca4, ca5⟩, fa, sa⟩ := Oa
  have fa := fun o => fa o
  have sxa : w.heap.size < w2.heap.size + 1 := by omega
  have sya : w.heap.size < w2.heap.size + 1 + 1 := by omega
  have Ob := Qb
  obtain ⟨⟨cb0, cb1, cb2, cb3, cb4, cb5⟩, fb, sb⟩ := Ob
  have fb := fun o => fb o
  have sxb : w.heap.size + 1 < w2.heap.size + 1 := by omega
  have syb : w.heap.size + 1 < w2.heap.size + 1 + 1 := by omega
  have Or := Qr
  obtain ⟨⟨cr0, cr1, cr2, cr3, cr4, cr5⟩, fr, sr⟩ := Or
  have fr := fun o => fr o
  have sxr : w.heap.size + 1 + 1 < w2.heap.size + 1 := by omega
  have syr : w.heap.size + 1 + 1 < w2.heap.size + 1 + 1 := by omega
  go_upto_region 7 with fail
  have nw2a : ¬ w.heap.size = w2.heap.size := (by omega)
  have nw2b : ¬ w.heap.size + 1 = w2.heap.size := (by omega)
  go_cut [12, 13] from 29 to 38 (fun s12 s13 wx => ∃ k, s12 = .bool (b != c) ∧ s13 = .pointer (some ⟨k, 0, none⟩) ∧ w.heap.size + 1 + 1 < k ∧ Mo w wx ∧ AtD wx w.heap.size b n s ∧ AtD wx (w.heap.size + 1) c m t ∧ AtD wx (w.heap.size + 1 + 1) false 0 0 ∧ AtX wx k (n * m))
  case first =>
    go_region_held3 (fun w' => w'.cell? ⟨w.heap.size, 0, none⟩ = some (.bool b) ∧ w'.cell? ⟨w.heap.size, 1, none⟩ = some (.int .u64 (l0 n)) ∧ w'.cell? ⟨w.heap.size, 2, none⟩ = some (.int .u64 (l1 n)) ∧ w'.cell? ⟨w.heap.size, 3, none⟩ = some (.int .u64 (l2 n)) ∧ w'.cell? ⟨w.heap.size, 4, none⟩ = some (.int .u64 (l3 n)) ∧ w'.cell? ⟨w.heap.size + 1, 0, none⟩ = some (.bool c) ∧ w'.cell? ⟨w.heap.size + 1, 1, none⟩ = some (.int .u64 (l0 m)) ∧ w'.cell? ⟨w.heap.size + 1, 2, none⟩ = some (.int .u64 (l1 m)) ∧ w'.cell? ⟨w.heap.size + 1, 3, none⟩ = some (.int .u64 (l2 m)) ∧ w'.cell? ⟨w.heap.size + 1, 4, none⟩ = some (.int .u64 (l3 m))) (simp [go_sem, *])
      (first | (go_at_call 87; refine (mulDouble_x n m _ hn0 hn hm0 hm).mono ?_; rintro e w3 ⟨rfl, hm3⟩; have m3 : Mo w2 w3 := Mo.trans (by repeat (first | with_reducible exact Mo.refl _ | with_reducible apply Mo.drew | with_reducible apply Mo.alloc)) hm3; obtain ⟨⟨e0, e1, e2, e3, e4, e5⟩, _, es⟩ := Qa.mo m3; obtain ⟨⟨f0, f1, f2, f3, f4, f5⟩, _, fs⟩ := Qb.mo m3; have nw3a : ¬ w.heap.size = w3.heap.size := (by omega); have nw3b : ¬ w.heap.size + 1 = w3.heap.size := (by omega); (first | (with_reducible have pq := T81.mk1 hm3; obtain ⟨p1, pz⟩ := pq) | (with_reducible have pq := T81.mk2 hm3; obtain ⟨p1, pz⟩ := pq) | skip)))
    all_goals
      go_wp2
      go_meet
      case rel =>
        have zr := (Qr.mo m3).2.2
        refine ⟨_, by cases b <;> cases c <;> rfl, rfl, by omega, ?_, ?_, ?_, ?_, ?_⟩
        · have MM1 := M.trans m3
          first | with_reducible exact Mo.setCells (by omega) _ _ _ MM1 | with_reducible exact Mo.setCells (by omega) _ _ _ (MM1.alloc _ _)
        · have q := Qa.mo m3
          first | with_reducible exact q.other (by omega) _ | with_reducible exact (q.mo ((Mo.refl _).alloc _ _)).other (by omega) _
        · have q := Qb.mo m3
          first | with_reducible exact q.other (by omega) _ | with_reducible exact (q.mo ((Mo.refl _).alloc _ _)).other (by omega) _
        · have q := Qr.mo m3
          first | with_reducible exact q.other (by omega) _ | with_reducible exact (q.mo ((Mo.refl _).alloc _ _)).other (by omega) _
        · first | with_reducible exact AtX.same _ p1 (by omega) | exact AtX.same _ (there_new _) (by simp)
  case rest =>
    clear ca0 ca1 ca2 ca3 ca4 ca5 fa sa sxa sya cb0 cb1 cb2 cb3 cb4 cb5 fb sb sxb syb cr0 cr1 cr2 cr3 cr4 cr5 fr sr sxr syr Qa Qb Qr M nw2a nw2b rst rn1 rc
    obtain ⟨k, rfl, rfl, hk, M, Qa, Qb, Qr, Qx⟩ := hcut
    obtain ⟨X, hX⟩ : ∃ X, X = n * m := ⟨_, rfl⟩
    rw [← hX] at Qx
    have HX : Hid _ := hX
    clear hX
    generalize hnb : (b != c) = nb at *
    have HN : Hid _ := hnb
    clear hnb
    have xl := ld81 wc k X Qx.1
    have xc := Qx.cells
    obtain ⟨x0, x1, x2, x3, x4, x5, x6, x7⟩ := xc
    have Oa := Qa
    obtain ⟨⟨ca0, ca1, ca2, ca3, ca4, ca5⟩, fa, sa⟩ := Oa
    have fa := fun o => fa o
    have sxa : w.heap.size < wc.heap.size + 1 := by omega
    have sya : w.heap.size < wc.heap.size + 1 + 1 := by omega
    have Ob := Qb
    obtain ⟨⟨cb0, cb1, cb2, cb3, cb4, cb5⟩, fb, sb⟩ := Ob
    have fb := fun o => fb o
    have sxb : w.heap.size + 1 < wc.heap.size + 1 := by omega
    have syb : w.heap.size + 1 < wc.heap.size + 1 + 1 := by omega
    have Or := Qr
    obtain ⟨⟨cr0, cr1, cr2, cr3, cr4, cr5⟩, fr, sr⟩ := Or
    have fr := fun o => fr o
    have sxr : w.heap.size + 1 + 1 < wc.heap.size + 1 := by omega
    have syr : w.heap.size + 1 + 1 < wc.heap.size + 1 + 1 := by omega
    have hf := HF.out
    rw [← HX.out] at hsh
    go_wp2_with fail
    refine (hsh _).mono ?_
    rintro e w7 ⟨rfl, hm7⟩
    have mz : Mo wc w7 := Mo.trans (by repeat (first | with_reducible exact Mo.refl _ | with_reducible apply Mo.drew | with_reducible apply Mo.alloc)) hm7
    have zwca := sa
    have zwcb := sb
    have zwcr := sr
    clear ca0 ca1 ca2 ca3 ca4 ca5 fa sa sxa sya cb0 cb1 cb2 cb3 cb4 cb5 fb sb sxb syb cr0 cr1 cr2 cr3 cr4 cr5 fr sr sxr syr
    have Qa := Qa.mo mz
    have Qb := Qb.mo mz
    have Qr := Qr.mo mz
    have M := M.trans mz
    clear hm7 mz
    have Oa := Qa
    obtain ⟨⟨ca0, ca1, ca2, ca3, ca4, ca5⟩, fa, sa⟩ := Oa
    have fa := fun o => fa o
    have sxa : w.heap.size < w7.heap.size + 1 := by omega
    have sya : w.heap.size < w7.heap.size + 1 + 1 := by omega
    have Ob := Qb
    obtain ⟨⟨cb0, cb1, cb2, cb3, cb4, cb5⟩, fb, sb⟩ := Ob
    have fb := fun o => fb o
    have sxb : w.heap.size + 1 < w7.heap.size + 1 := by omega
    have syb : w.heap.size + 1 < w7.heap.size + 1 + 1 := by omega
    have Or := Qr
    obtain ⟨⟨cr0, cr1, cr2, cr3, cr4, cr5⟩, fr, sr⟩ := Or
    have fr := fun o => fr o
    have sxr : w.heap.size + 1 + 1 < w7.heap.size + 1 := by omega
    have syr : w.heap.size + 1 + 1 < w7.heap.size + 1 + 1 := by omega
    go_wp2
    refine bodyPost_ret (v := .tuple #[dz (sv nb (ro nb X f p)) S, .int .i64 0]) (by simp [results, Try.results41, go_sem, *]) rfl ?_
    refine ⟨by rw [HN.out, ← HX.out], ?_⟩
    repeat (first | with_reducible exact M | with_reducible exact Mo.refl _ | with_reducible apply Mo.drew | with_reducible apply Mo.drewN | with_reducible apply Mo.alloc | with_reducible refine Mo.setCell ?_ (by simp <;> omega) _)
set_option maxHeartbeats 8000000 in
theorem mulTo_dn_full (b c : Bool) (n m s t S p : Int) (w : World) (hn0 : 0 ≤ n) (hn : n < MM) (hm0 : 0 ≤ m) (hm : m < MM) (h1 : ck b n s = 0) (h2 : ck c m t = 0) (hS : sc S = true) (hp1 : 1 ≤ p) (hp5 : p ≤ 5) (f : Nat) (hf : s + t - S = (f : Int)) (hf0 : 0 < f) (hf36 : f ≤ 36) (hs : 0 ≤ s ∧ s ≤ 18) (ht : 0 ≤ t ∧ t ≤ 18) (hr : MM ≤ ro (b != c) (n * m) f p) :
    Calls Try.prog 41 #[dc b n s, dc c m t, .int .i64 S, .int .i64 p] w fun e w' => e = .returned (er 7) ∧ Mo w w' := by
  have bX := prod_bd hn0 hn hm0 hm
  have hsh : ∀ w, Calls Try.prog 89 #[.bool (b != c), dx (n * m), .int .i64 (f : Int), .int .i64 S, .int .i64 p] w fun e w' => e = .returned (er 7) ∧ Mo w w' := fun w => shorten_full (b != c) (n * m) S p f w bX.1 bX.2 hf36 hp1 hp5 hr
  have hst : IntKind.i64.wrap (s + t) = s + t := by rw [IntKind.wrap_i64]; omega
  have hff : IntKind.i64.wrap (f : Int) = (f : Int) := by rw [IntKind.wrap_i64]; omega
  have hd : decide ((f : Int) > 0) = true := decide_eq_true (by omega)
  have HF : Hid _ := hf
  have HR : Hid _ := hr
  clear bX hf hr
  have hsz := dwa_size
  have rst := st81
  have rn1 := there_new
  have rc := cell_sc
  go_enter Try.func41, Try.ntmps41
  go_wp2_with fail
  refine (both_ok b n s c m t _ hn0 hn hm0 hm h1 h2).mono ?_
  rintro e w1 ⟨rfl, hm1⟩
  have mz : Mo w w1 := Mo.trans (by repeat (first | with_reducible exact Mo.refl _ | with_reducible apply Mo.drew | with_reducible apply Mo.alloc)) hm1
  have M := mz
  have Qa : AtD w1 (w.heap.size) b n s := AtD.mo ⟨by simp [go_sem], fun o => by simp [go_sem], by simp <;> omega⟩ hm1
  have Qb : AtD w1 (w.heap.size + 1) c m t := AtD.mo ⟨by simp [go_sem], fun o => by simp [go_sem], by simp <;> omega⟩ hm1
  have Qr : AtD w1 (w.heap.size + 1 + 1) false 0 0 := AtD.mo ⟨by simp [go_sem, zl0, zl1, zl2, zl3], fun o => by simp [go_sem], by simp <;> omega⟩ hm1
  clear hm1 mz
  have Oa := Qa
  obtain ⟨⟨ca0, ca1, ca2, ca3, ca4, ca5⟩, fa, sa⟩ := Oa
  have fa := fun o => fa o
  have sxa : w.heap.size < w1.heap.size + 1 := by omega
  have sya : w.heap.size < w1.heap.size + 1 + 1 := by omega
  have Ob := Qb
  obtain ⟨⟨cb0, cb1, cb2, cb3, cb4, cb5⟩, fb, sb⟩ := Ob
  have fb := fun o => fb o
  have sxb : w.heap.size + 1 < w1.heap.size + 1 := by omega
  have syb : w.heap.size + 1 < w1.heap.size + 1 + 1 := by omega
  have Or := Qr
  obtain ⟨⟨cr0, cr1, cr2, cr3, cr4, cr5⟩, fr, sr⟩ := Or
  have fr := fun o => fr o
  have sxr : w.heap.size + 1 + 1 < w1.heap.size + 1 := by omega
  have syr : w.heap.size + 1 + 1 < w1.heap.size + 1 + 1 := by omega
  go_wp2_with fail
  refine (cr_ok S p _ hS hp1 hp5).mono ?_
  rintro e w2 ⟨rfl, hm2⟩
  have mz : Mo w1 w2 := Mo.trans (by repeat (first | with_reducible exact Mo.refl _ | with_reducible apply Mo.drew | with_reducible apply Mo.alloc)) hm2
  have zw1a := sa
  have zw1b := sb
  have zw1r := sr
  clear ca0 ca1 ca2 ca3 ca4 ca5 fa sa sxa sya cb0 cb1 cb2 cb3 cb4 cb5 fb sb sxb syb cr0 cr1 cr2 cr3 cr4 cr5 fr sr sxr syr
  have Qa := Qa.mo mz
  have Qb := Qb.mo mz
  have Qr := Qr.mo mz
  have M := M.trans mz
  clear hm2 mz
  have Oa := Qa
  obtain ⟨⟨ca0, ca1, ca2, ca3, ca4, ca5⟩, fa, sa⟩ := Oa
  have fa := fun o => fa o
  have sxa : w.heap.size < w2.heap.size + 1 := by omega
  have sya : w.heap.size < w2.heap.size + 1 + 1 := by omega
  have Ob := Qb
  obtain ⟨⟨cb0, cb1, cb2, cb3, cb4, cb5⟩, fb, sb⟩ := Ob
  have fb := fun o => fb o
  have sxb : w.heap.size + 1 < w2.heap.size + 1 := by omega
  have syb : w.heap.size + 1 < w2.heap.size + 1 + 1 := by omega
  have Or := Qr
  obtain ⟨⟨cr0, cr1, cr2, cr3, cr4, cr5⟩, fr, sr⟩ := Or
  have fr := fun o => fr o
  have sxr : w.heap.size + 1 + 1 < w2.heap.size + 1 := by omega
  have syr : w.heap.size + 1 + 1 < w2.heap.size + 1 + 1 := by omega
  go_upto_region 7 with fail
  have nw2a : ¬ w.heap.size = w2.heap.size := (by omega)
  have nw2b : ¬ w.heap.size + 1 = w2.heap.size := (by omega)
  go_cut [12, 13] from 29 to 38 (fun s12 s13 wx => ∃ k, s12 = .bool (b != c) ∧ s13 = .pointer (some ⟨k, 0, none⟩) ∧ w.heap.size + 1 + 1 < k ∧ Mo w wx ∧ AtD wx w.heap.size b n s ∧ AtD wx (w.heap.size + 1) c m t ∧ AtD wx (w.heap.size + 1 + 1) false 0 0 ∧ AtX wx k (n * m))
  case first =>
    go_region_held3 (fun w' => w'.cell? ⟨w.heap.size, 0, none⟩ = some (.bool b) ∧ w'.cell? ⟨w.heap.size, 1, none⟩ = some (.int .u64 (l0 n)) ∧ w'.cell? ⟨w.heap.size, 2, none⟩ = some (.int .u64 (l1 n)) ∧ w'.cell? ⟨w.heap.size, 3, none⟩ = some (.int .u64 (l2 n)) ∧ w'.cell? ⟨w.heap.size, 4, none⟩ = some (.int .u64 (l3 n)) ∧ w'.cell? ⟨w.heap.size + 1, 0, none⟩ = some (.bool c) ∧ w'.cell? ⟨w.heap.size + 1, 1, none⟩ = some (.int .u64 (l0 m)) ∧ w'.cell? ⟨w.heap.size + 1, 2, none⟩ = some (.int .u64 (l1 m)) ∧ w'.cell? ⟨w.heap.size + 1, 3, none⟩ = some (.int .u64 (l2 m)) ∧ w'.cell? ⟨w.heap.size + 1, 4, none⟩ = some (.int .u64 (l3 m))) (simp [go_sem, *])
      (first | (go_at_call 87; refine (mulDouble_x n m _ hn0 hn hm0 hm).mono ?_; rintro e w3 ⟨rfl, hm3⟩; have m3 : Mo w2 w3 := Mo.trans (by repeat (first | with_reducible exact Mo.refl _ | with_reducible apply Mo.drew | with_reducible apply Mo.alloc)) hm3; obtain ⟨⟨e0, e1, e2, e3, e4, e5⟩, _, es⟩ := Qa.mo m3; obtain ⟨⟨f0, f1, f2, f3, f4, f5⟩, _, fs⟩ := Qb.mo m3; have nw3a : ¬ w.heap.size = w3.heap.size := (by omega); have nw3b : ¬ w.heap.size + 1 = w3.heap.size := (by omega); (first | (with_reducible have pq := T81.mk1 hm3; obtain ⟨p1, pz⟩ := pq) | (with_reducible have pq := T81.mk2 hm3; obtain ⟨p1, pz⟩ := pq) | skip)))
    all_goals
      go_wp2
      go_meet
      case rel =>
        have zr := (Qr.mo m3).2.2
        refine ⟨_, by cases b <;> cases c <;> rfl, rfl, by omega, ?_, ?_, ?_, ?_, ?_⟩
        · have MM1 := M.trans m3
          first | with_reducible exact Mo.setCells (by omega) _ _ _ MM1 | with_reducible exact Mo.setCells (by omega) _ _ _ (MM1.alloc _ _)
        · have q := Qa.mo m3
          first | with_reducible exact q.other (by omega) _ | with_reducible exact (q.mo ((Mo.refl _).alloc _ _)).other (by omega) _
        · have q := Qb.mo m3
          first | with_reducible exact q.other (by omega) _ | with_reducible exact (q.mo ((Mo.refl _).alloc _ _)).other (by omega) _
        · have q := Qr.mo m3
          first | with_reducible exact q.other (by omega) _ | with_reducible exact (q.mo ((Mo.refl _).alloc _ _)).other (by omega) _
        · first | with_reducible exact AtX.same _ p1 (by omega) | exact AtX.same _ (there_new _) (by simp)
  case rest =>
    clear ca0 ca1 ca2 ca3 ca4 ca5 fa sa sxa sya cb0 cb1 cb2 cb3 cb4 cb5 fb sb sxb syb cr0 cr1 cr2 cr3 cr4 cr5 fr sr sxr syr Qa Qb Qr M nw2a nw2b rst rn1 rc
    obtain ⟨k, rfl, rfl, hk, M, Qa, Qb, Qr, Qx⟩ := hcut
    obtain ⟨X, hX⟩ : ∃ X, X = n * m := ⟨_, rfl⟩
    rw [← hX] at Qx
    have HX : Hid _ := hX
    clear hX
    generalize hnb : (b != c) = nb at *
    have HN : Hid _ := hnb
    clear hnb
    have xl := ld81 wc k X Qx.1
    have xc := Qx.cells
    obtain ⟨x0, x1, x2, x3, x4, x5, x6, x7⟩ := xc
    have Oa := Qa
    obtain ⟨⟨ca0, ca1, ca2, ca3, ca4, ca5⟩, fa, sa⟩ := Oa
    have fa := fun o => fa o
    have sxa : w.heap.size < wc.heap.size + 1 := by omega
    have sya : w.heap.size < wc.heap.size + 1 + 1 := by omega
    have Ob := Qb
    obtain ⟨⟨cb0, cb1, cb2, cb3, cb4, cb5⟩, fb, sb⟩ := Ob
    have fb := fun o => fb o
    have sxb : w.heap.size + 1 < wc.heap.size + 1 := by omega
    have syb : w.heap.size + 1 < wc.heap.size + 1 + 1 := by omega
    have Or := Qr
    obtain ⟨⟨cr0, cr1, cr2, cr3, cr4, cr5⟩, fr, sr⟩ := Or
    have fr := fun o => fr o
    have sxr : w.heap.size + 1 + 1 < wc.heap.size + 1 := by omega
    have syr : w.heap.size + 1 + 1 < wc.heap.size + 1 + 1 := by omega
    have hf := HF.out
    rw [← HX.out] at hsh
    go_wp2_with fail
    refine (hsh _).mono ?_
    rintro e w7 ⟨rfl, hm7⟩
    have mz : Mo wc w7 := Mo.trans (by repeat (first | with_reducible exact Mo.refl _ | with_reducible apply Mo.drew | with_reducible apply Mo.alloc)) hm7
    have zwca := sa
    have zwcb := sb
    have zwcr := sr
    clear ca0 ca1 ca2 ca3 ca4 ca5 fa sa sxa sya cb0 cb1 cb2 cb3 cb4 cb5 fb sb sxb syb cr0 cr1 cr2 cr3 cr4 cr5 fr sr sxr syr
    have Qa := Qa.mo mz
    have Qb := Qb.mo mz
    have Qr := Qr.mo mz
    have M := M.trans mz
    clear hm7 mz
    have Oa := Qa
    obtain ⟨⟨ca0, ca1, ca2, ca3, ca4, ca5⟩, fa, sa⟩ := Oa
    have fa := fun o => fa o
    have sxa : w.heap.size < w7.heap.size + 1 := by omega
    have sya : w.heap.size < w7.heap.size + 1 + 1 := by omega
    have Ob := Qb
    obtain ⟨⟨cb0, cb1, cb2, cb3, cb4, cb5⟩, fb, sb⟩ := Ob
    have fb := fun o => fb o
    have sxb : w.heap.size + 1 < w7.heap.size + 1 := by omega
    have syb : w.heap.size + 1 < w7.heap.size + 1 + 1 := by omega
    have Or := Qr
    obtain ⟨⟨cr0, cr1, cr2, cr3, cr4, cr5⟩, fr, sr⟩ := Or
    have fr := fun o => fr o
    have sxr : w.heap.size + 1 + 1 < w7.heap.size + 1 := by omega
    have syr : w.heap.size + 1 + 1 < w7.heap.size + 1 + 1 := by omega
    go_wp2
    refine bodyPost_ret (v := er 7) (by simp [results, Try.results41, go_sem, *]) rfl ?_
    refine ⟨rfl, ?_⟩
    repeat (first | with_reducible exact M | with_reducible exact Mo.refl _ | with_reducible apply Mo.drew | with_reducible apply Mo.drewN | with_reducible apply Mo.alloc | with_reducible refine Mo.setCell ?_ (by simp <;> omega) _)
end Go.Proofs.Ytoiiekmkcpcbgaa

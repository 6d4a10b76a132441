/-
  A part of the proof.
-/
import Derived.Test.YtogomodbcjpfiaaGreatDoorKa5
import Derived.Test.YtogomodbcjpfiaaGreatDoorKb1
import Derived.Test.YtogomodbcjpfiaaGreatDoorKa1
import Derived.Test.YtogomodbcjpfiaaGreatDoorProg
import Derived.WalkKit
import Derived.WalkSpells
import Derived.Handy
import Derived.BigQuiet
import Derived.Deep.RegionHeld3
import Derived.Test.YtogomodbcjpfiaaGreatDoorKa6
import Derived.Test.YtogomodbcjpfiaaGreatDoorKa7
import Derived.Test.YtogomodbcjpfiaaGreatDoorKa4
import Derived.Shelf.Small.Bits
import Derived.Shelf.Strconv.Itoa0
import Derived.Shelf.Bits.Mul64
import Derived.Deep.CutBlock
import Derived.Deep.CutRange
import Derived.ChangeKeysEq
import Derived.Test.YtogomodbcjpfiaaGreatDoorKa8
import Derived.ScopeJumps
import Derived.WalkMore
namespace Go.Proofs.YtogomodbcjpfiaaGreatDoor
open Go.RowKit
theorem vint {k : IntKind} {a b : Int} (h : a = b) : Value.int k a = .int k b := by rw [h]
theorem setl0 (X : World) (m N : Nat) (x0 x1 x2 x3 v u : Value) (hN : N = X.heap.size) (h : v = u) :
  ((X.alloc (.cells #[x0, x1, x2, x3] 24)).drewN m).setCell ⟨N, 0, none⟩ v = (X.alloc (.cells #[u, x1, x2, x3] 24)).drewN m := by
 subst hN; subst h
 show (((X.alloc (.cells #[x0, x1, x2, x3] 24)).setCell ⟨X.heap.size, 0, none⟩ v).drewN m) = _
 rw [World.setCell_alloc_at _ _ _ _ _ rfl]
 rfl
theorem setl1 (X : World) (m N : Nat) (x0 x1 x2 x3 v u : Value) (hN : N = X.heap.size) (h : v = u) :
  ((X.alloc (.cells #[x0, x1, x2, x3] 24)).drewN m).setCell ⟨N, 1, none⟩ v = (X.alloc (.cells #[x0, u, x2, x3] 24)).drewN m := by
 subst hN; subst h
 show (((X.alloc (.cells #[x0, x1, x2, x3] 24)).setCell ⟨X.heap.size, 1, none⟩ v).drewN m) = _
 rw [World.setCell_alloc_at _ _ _ _ _ rfl]
 rfl
theorem setl2 (X : World) (m N : Nat) (x0 x1 x2 x3 v u : Value) (hN : N = X.heap.size) (h : v = u) :
  ((X.alloc (.cells #[x0, x1, x2, x3] 24)).drewN m).setCell ⟨N, 2, none⟩ v = (X.alloc (.cells #[x0, x1, u, x3] 24)).drewN m := by
 subst hN; subst h
 show (((X.alloc (.cells #[x0, x1, x2, x3] 24)).setCell ⟨X.heap.size, 2, none⟩ v).drewN m) = _
 rw [World.setCell_alloc_at _ _ _ _ _ rfl]
 rfl
theorem setl3 (X : World) (m N : Nat) (x0 x1 x2 x3 v u : Value) (hN : N = X.heap.size) (h : v = u) :
  ((X.alloc (.cells #[x0, x1, x2, x3] 24)).drewN m).setCell ⟨N, 3, none⟩ v = (X.alloc (.cells #[x0, x1, x2, u] 24)).drewN m := by
 subst hN; subst h
 show (((X.alloc (.cells #[x0, x1, x2, x3] 24)).setCell ⟨X.heap.size, 3, none⟩ v).drewN m) = _
 rw [World.setCell_alloc_at _ _ _ _ _ rfl]
 rfl

set_option maxHeartbeats 4000000 in
theorem radd_raw (a0 a1 a2 a3 b0 b1 b2 b3 n1 n2 n3 n4 : Int) (w : World) (ha : U4 a0 a1 a2 a3) (hb : U4 b0 b1 b2 b3) (h1 : Hid (n1 = a0 + b0)) (h2 : Hid (n2 = a1 + b1 + n1 / 18446744073709551616)) (h3 : Hid (n3 = a2 + b2 + n2 / 18446744073709551616)) (h4 : Hid (n4 = a3 + b3 + n3 / 18446744073709551616)) :
  Calls Tryz.prog 121 #[.agg #[.int .u64 a0, .int .u64 a1, .int .u64 a2, .int .u64 a3], .agg #[.int .u64 b0, .int .u64 b1, .int .u64 b2, .int .u64 b3]] w fun e w' =>
   e = .returned (.tuple #[.agg #[.int .u64 (n1 % 18446744073709551616), .int .u64 (n2 % 18446744073709551616), .int .u64 (n3 % 18446744073709551616), .int .u64 (n4 % 18446744073709551616)], .bool (n4 / 18446744073709551616 == 1)]) ∧ Mo w w' := by
 obtain ⟨⟨p0, q0⟩, ⟨p1, q1⟩, ⟨p2, q2⟩, ⟨p3, q3⟩⟩ := ha
 obtain ⟨⟨r0, s0⟩, ⟨r1, s1⟩, ⟨r2, s2⟩, ⟨r3, s3⟩⟩ := hb
 have j1 : 0 ≤ n1 / 18446744073709551616 := by have := h1.out; omega
 have j1' : n1 / 18446744073709551616 ≤ 1 := by have := h1.out; omega
 have j2 : 0 ≤ n2 / 18446744073709551616 := by have := h2.out; omega
 have j2' : n2 / 18446744073709551616 ≤ 1 := by have := h2.out; omega
 have j3 : 0 ≤ n3 / 18446744073709551616 := by have := h3.out; omega
 have j3' : n3 / 18446744073709551616 ≤ 1 := by have := h3.out; omega
 go_enter Tryz.func121, Tryz.ntmps121
 go_wp2
 go_loopw [7, 8] (fun c i wr => ∃ m : Nat,
   (i = .int .i64 0 ∧ c = .int .u64 0 ∧ wr = ((((w.alloc (.cells #[.int .u64 a0, .int .u64 a1, .int .u64 a2, .int .u64 a3] 24)).alloc (.cells #[.int .u64 b0, .int .u64 b1, .int .u64 b2, .int .u64 b3] 24)).alloc (.cells #[.int .u64 0, .int .u64 0, .int .u64 0, .int .u64 0] 24)).alloc (.cells #[.int .u64 0, .int .u64 0, .int .u64 0, .int .u64 0] 24)).drewN m) ∨
   (i = .int .i64 1 ∧ c = .int .u64 (n1 / 18446744073709551616) ∧ wr = ((((w.alloc (.cells #[.int .u64 a0, .int .u64 a1, .int .u64 a2, .int .u64 a3] 24)).alloc (.cells #[.int .u64 b0, .int .u64 b1, .int .u64 b2, .int .u64 b3] 24)).alloc (.cells #[.int .u64 0, .int .u64 0, .int .u64 0, .int .u64 0] 24)).alloc (.cells #[.int .u64 (n1 % 18446744073709551616), .int .u64 0, .int .u64 0, .int .u64 0] 24)).drewN m) ∨
   (i = .int .i64 2 ∧ c = .int .u64 (n2 / 18446744073709551616) ∧ wr = ((((w.alloc (.cells #[.int .u64 a0, .int .u64 a1, .int .u64 a2, .int .u64 a3] 24)).alloc (.cells #[.int .u64 b0, .int .u64 b1, .int .u64 b2, .int .u64 b3] 24)).alloc (.cells #[.int .u64 0, .int .u64 0, .int .u64 0, .int .u64 0] 24)).alloc (.cells #[.int .u64 (n1 % 18446744073709551616), .int .u64 (n2 % 18446744073709551616), .int .u64 0, .int .u64 0] 24)).drewN m) ∨
   (i = .int .i64 3 ∧ c = .int .u64 (n3 / 18446744073709551616) ∧ wr = ((((w.alloc (.cells #[.int .u64 a0, .int .u64 a1, .int .u64 a2, .int .u64 a3] 24)).alloc (.cells #[.int .u64 b0, .int .u64 b1, .int .u64 b2, .int .u64 b3] 24)).alloc (.cells #[.int .u64 0, .int .u64 0, .int .u64 0, .int .u64 0] 24)).alloc (.cells #[.int .u64 (n1 % 18446744073709551616), .int .u64 (n2 % 18446744073709551616), .int .u64 (n3 % 18446744073709551616), .int .u64 0] 24)).drewN m) ∨
   (i = .int .i64 4 ∧ c = .int .u64 (n4 / 18446744073709551616) ∧ wr = ((((w.alloc (.cells #[.int .u64 a0, .int .u64 a1, .int .u64 a2, .int .u64 a3] 24)).alloc (.cells #[.int .u64 b0, .int .u64 b1, .int .u64 b2, .int .u64 b3] 24)).alloc (.cells #[.int .u64 0, .int .u64 0, .int .u64 0, .int .u64 0] 24)).alloc (.cells #[.int .u64 (n1 % 18446744073709551616), .int .u64 (n2 % 18446744073709551616), .int .u64 (n3 % 18446744073709551616), .int .u64 (n4 % 18446744073709551616)] 24)).drewN m)) (fun _ i _ => 4 - (intOf i).toNat)
 case atStart => exact ⟨0, Or.inl ⟨rfl, rfl, rfl⟩⟩
 case round =>
  obtain ⟨m, ⟨rfl, rfl, rfl⟩ | ⟨rfl, rfl, rfl⟩ | ⟨rfl, rfl, rfl⟩ | ⟨rfl, rfl, rfl⟩ | ⟨rfl, rfl, rfl⟩⟩ := hrel
  ·go_wp2
   go_quiet (fail)
   go_wp2
   all_goals
    go_roundw
    case rel =>
     have hn := h1.out
     simp only [IntKind.wrap_u64] at *
     refine ⟨m + nq, Or.inr (Or.inl ⟨by trivial, vint (by omega), ?_⟩)⟩
     exact setl0 _ _ _ _ _ _ _ _ _ (by simp) (vint (by omega))
    case measure => simp [intOf]
  ·go_wp2
   go_quiet (fail)
   go_wp2
   all_goals
    go_roundw
    case rel =>
     have hn := h2.out
     simp only [IntKind.wrap_u64] at *
     refine ⟨m + nq, Or.inr (Or.inr (Or.inl ⟨by trivial, vint (by omega), ?_⟩))⟩
     exact setl1 _ _ _ _ _ _ _ _ _ (by simp) (vint (by omega))
    case measure => simp [intOf]
  ·go_wp2
   go_quiet (fail)
   go_wp2
   all_goals
    go_roundw
    case rel =>
     have hn := h3.out
     simp only [IntKind.wrap_u64] at *
     refine ⟨m + nq, Or.inr (Or.inr (Or.inr (Or.inl ⟨by trivial, vint (by omega), ?_⟩)))⟩
     exact setl2 _ _ _ _ _ _ _ _ _ (by simp) (vint (by omega))
    case measure => simp [intOf]
  ·go_wp2
   go_quiet (fail)
   go_wp2
   all_goals
    go_roundw
    case rel =>
     have hn := h4.out
     simp only [IntKind.wrap_u64] at *
     refine ⟨m + nq, Or.inr (Or.inr (Or.inr (Or.inr ⟨by trivial, vint (by omega), ?_⟩)))⟩
     exact setl3 _ _ _ _ _ _ _ _ _ (by simp) (vint (by omega))
    case measure => simp [intOf]
  ·go_wp2
   refine bodyPost_ret (by simp [results, Tryz.results121, go_sem]; rfl) rfl ?_
   refine ⟨rfl, ?_⟩
   repeat (first | exact Mo.refl _ | with_reducible apply Mo.drew | with_reducible apply Mo.drewN | with_reducible apply Mo.alloc | with_reducible refine Mo.setCell ?_ (by simp <;> omega) _ | with_reducible refine Mo.trans ?_ (by assumption))

theorem ov_eq {a b c d e f g h : Int} (h1 : U4 a b c d) (h2 : U4 e f g h) : ((vl a b c d + vl e f g h) / MM == 1) = ov (vl a b c d + vl e f g h) := by
 obtain ⟨p, q⟩ := vl_bd h1; obtain ⟨r, s⟩ := vl_bd h2
 unfold ov; unfold MM at *
 rw [Bool.eq_iff_iff]; simp; omega

theorem radd_any (a0 a1 a2 a3 b0 b1 b2 b3 : Int) (w : World) (ha : U4 a0 a1 a2 a3) (hb : U4 b0 b1 b2 b3) :
  Calls Tryz.prog 121 #[.agg #[.int .u64 a0, .int .u64 a1, .int .u64 a2, .int .u64 a3], .agg #[.int .u64 b0, .int .u64 b1, .int .u64 b2, .int .u64 b3]] w fun e w' =>
   e = .returned (.tuple #[nv (vl a0 a1 a2 a3 + vl b0 b1 b2 b3), .bool (ov (vl a0 a1 a2 a3 + vl b0 b1 b2 b3))]) ∧ Mo w w' := by
 refine (radd_raw a0 a1 a2 a3 b0 b1 b2 b3 _ _ _ _ w ha hb rfl rfl rfl rfl).mono ?_
 rintro e w' ⟨rfl, hm⟩
 obtain ⟨e0, e1, e2, e3, e4⟩ := addc_eq ha hb rfl
 refine ⟨?_, hm⟩
 rw [nv_of e0 e1 e2 e3, e4, ov_eq ha hb]
end Go.Proofs.YtogomodbcjpfiaaGreatDoor

namespace Go.Proofs.YtogomodbcjpfiaaGreatDoor
open Go.RowKit
def SW (w wx : World) (a b : Int) : Prop := Mo w wx ∧ AtN wx w.heap.size a ∧ AtN wx (w.heap.size + 1) b ∧ AtN wx (w.heap.size + 1 + 1) 0
theorem SW.mo {w wx w1 : World} {a b : Int} (v : SW w wx a b) (m : Mo wx w1) : SW w w1 a b := by
 obtain ⟨v1, v2, v3, v4⟩ := v
 exact ⟨v1.trans m, v2.mo m, v3.mo m, v4.mo m⟩
theorem SW.setk {w wx : World} {a b : Int} (v : SW w wx a b) {k : Nat} (hk : w.heap.size + 1 + 1 < k) (z : Int) : SW w (st4 wx k z) a b := by
 obtain ⟨v1, v2, v3, v4⟩ := v
 exact ⟨v1.st4 (by omega) z, v2.other (by omega) z, v3.other (by omega) z, v4.other (by omega) z⟩
theorem SW.start (w : World) (a b : Int) : SW w (((w.alloc (.cells #[.int .u64 (l0 a), .int .u64 (l1 a), .int .u64 (l2 a), .int .u64 (l3 a)] 24)).alloc (.cells #[.int .u64 (l0 b), .int .u64 (l1 b), .int .u64 (l2 b), .int .u64 (l3 b)] 24)).alloc (.cells #[.int .u64 0, .int .u64 0, .int .u64 0, .int .u64 0] 24)) a b := by
 have z0 : l0 0 = 0 := by decide
 have z1 : l1 0 = 0 := by decide
 have z2 : l2 0 = 0 := by decide
 have z3 : l3 0 = 0 := by decide
 refine ⟨(((Mo.refl _).alloc _ _).alloc _ _).alloc _ _, ⟨by simp [At4, go_sem], fun o => by simp [go_sem], by simp <;> omega⟩, ⟨by simp [At4, go_sem], fun o => by simp [go_sem], by simp <;> omega⟩, ⟨by simp [At4, go_sem, z0, z1, z2, z3], fun o => by simp [go_sem], by simp <;> omega⟩⟩

set_option maxHeartbeats 4000000 in
theorem rsub_n (A B : Int) (w : World) (hA0 : 0 ≤ A) (hAM : A < MM) (hB0 : 0 ≤ B) (hBM : B < MM) :
  Calls Tryz.prog 123 #[nv A, nv B] w fun e w' =>
   e = .returned (.tuple #[nv (A - B), .bool (un (A - B))]) ∧ Mo w w' := by
 have hcm : decide (cm A B < 0) = un (A - B) := by
  unfold cm un
  by_cases h : A < B
  ·rw [if_pos h, decide_eq_true (by decide), decide_eq_true (by omega)]
  ·rw [if_neg h, decide_eq_false (p := A - B < 0) (by omega)]
   split <;> decide
 have Hcm : Hid _ := hcm
 clear hcm
 have v0 := SW.start w A B
 have H1 : Hid (nv (A + (MM - 1 - B) % MM) = nv (A + (MM - 1 - B))) := by
  show _ = _
  rw [← nv_mod (A + (MM - 1 - B) % MM), Int.add_emod_emod, nv_mod]
 have H2 : Hid (nv ((A + (MM - 1 - B)) % MM + 1 % MM) = nv (A - B)) := by
  show _ = _
  rw [nv_add_mod, show A + (MM - 1 - B) + 1 = A - B + MM * 1 from by omega, nv_top]
 go_enter Tryz.func123, Tryz.ntmps123
 go_upto_region 1 with fail
 revert v0
 generalize ((w.alloc (.cells #[.int .u64 (l0 A), .int .u64 (l1 A), .int .u64 (l2 A), .int .u64 (l3 A)] 24)).alloc (.cells #[.int .u64 (l0 B), .int .u64 (l1 B), .int .u64 (l2 B), .int .u64 (l3 B)] 24)).alloc (.cells #[.int .u64 0, .int .u64 0, .int .u64 0, .int .u64 0] 24) = W0
 intro v0
 go_cut [6, 7] from 8 to 14 (fun s6 _ wx => ∃ k, s6 = .pointer (some ⟨k, 0, none⟩) ∧ w.heap.size + 1 + 1 < k ∧ SW w wx A B ∧ AtN wx k (A + (MM - 1 - B)))
 case first =>
  have v0z := v0
  obtain ⟨_, ⟨⟨c0, c1, c2, c3⟩, _, x1⟩, ⟨⟨d0, d1, d2, d3⟩, _, x2⟩, _, _, x3⟩ := v0z
  go_region_held3 (fun w' => w'.cell? ⟨w.heap.size, 0, none⟩ = some (.int .u64 (l0 A)) ∧ w'.cell? ⟨w.heap.size, 1, none⟩ = some (.int .u64 (l1 A)) ∧ w'.cell? ⟨w.heap.size, 2, none⟩ = some (.int .u64 (l2 A)) ∧ w'.cell? ⟨w.heap.size, 3, none⟩ = some (.int .u64 (l3 A)) ∧ w'.cell? ⟨w.heap.size + 1, 0, none⟩ = some (.int .u64 (l0 B)) ∧ w'.cell? ⟨w.heap.size + 1, 1, none⟩ = some (.int .u64 (l1 B)) ∧ w'.cell? ⟨w.heap.size + 1, 2, none⟩ = some (.int .u64 (l2 B)) ∧ w'.cell? ⟨w.heap.size + 1, 3, none⟩ = some (.int .u64 (l3 B))) (simp [go_sem, World.cell?_alloc_past, *])
   (first | (go_at_call 146; refine (not_any (l0 B) (l1 B) (l2 B) (l3 B) _ (u4_lb B)).mono ?_; rintro e w1 ⟨rfl, hm1⟩; rw [vl_lb B hB0 hBM]; have v1 := v0.mo (Mo.trans (by repeat (first | with_reducible exact Mo.refl _ | with_reducible apply Mo.drew | with_reducible apply Mo.alloc)) hm1); (try (with_reducible have k1 := At0.mk1 hm1)); have v1z := v1; obtain ⟨_, ⟨⟨e0, e1, e2, e3⟩, _, y1⟩, ⟨⟨f0, f1, f2, f3⟩, _, y2⟩, _, _, y3⟩ := v1z) | (go_at_call 121; refine (radd_any (l0 A) (l1 A) (l2 A) (l3 A) _ _ _ _ _ (u4_lb A) (u4_lb _)).mono ?_; rintro e w2 ⟨rfl, hm2⟩; rw [vl_lb A hA0 hAM, vl_nv, H1.out]; have m2 : Mo w1 w2 := Mo.trans (by repeat (first | with_reducible exact Mo.refl _ | with_reducible apply Mo.drew | with_reducible apply Mo.alloc)) hm2; (try (with_reducible have k2 := At0.mk2 hm2)); (try (with_reducible have k2 := k1.mo m2)); (try have k3 := k2); (try obtain ⟨⟨i0, i1, i2, i3⟩, ff, y9⟩ := k2); (try have ff := fun o => ff o); have v2 := v1.mo m2; have v2z := v2; obtain ⟨_, ⟨⟨g0, g1, g2, g3⟩, _, y4⟩, ⟨⟨h0, h1, h2, h3⟩, _, y5⟩, _, _, y6⟩ := v2z))
  all_goals
   go_wp2
   go_meet
   case rel =>
    have z1 := hm1.size
    have z2 := m2.size
    simp at z1
    refine ⟨_, rfl, by omega, ?_, ?_⟩
    ·first | exact v2.setk (by omega) _ | exact v2.mo ((Mo.refl _).alloc _ _)
    ·first | exact k3.same _ | exact AtN.new _ _
 case rest =>
  clear v0
  obtain ⟨k, rfl, hk, v, n⟩ := hcut
  go_upto_region 2 with fail
  go_cut [] from 15 to 20 (fun wx => SW w wx A B ∧ AtN wx k (A - B))
  case first =>
   have vz := v
   have nz := n
   obtain ⟨⟨i0, i1, i2, i3⟩, _, x0⟩ := nz
   go_region_with
    (first | (go_at_call 107; refine (from34_any 1 _ ⟨by decide, by decide⟩).mono ?_; rintro e w1 ⟨rfl, hm1⟩; have m1 : Mo wc w1 := Mo.trans (by repeat (first | with_reducible exact Mo.refl _ | with_reducible apply Mo.drew | with_reducible apply Mo.alloc)) hm1; obtain ⟨⟨i0, i1, i2, i3⟩, _, x1⟩ := n.mo m1) | (go_at_call 121; refine (radd_any (l0 (A + (MM - 1 - B))) (l1 (A + (MM - 1 - B))) (l2 (A + (MM - 1 - B))) (l3 (A + (MM - 1 - B))) (l0 1) (l1 1) (l2 1) (l3 1) _ (u4_lb _) (u4_lb _)).mono ?_; rintro e w2 ⟨rfl, hm2⟩; rw [vl_nv (A + (MM - 1 - B)), vl_nv 1, H2.out]; have m2 : Mo w1 w2 := Mo.trans (by repeat (first | with_reducible exact Mo.refl _ | with_reducible apply Mo.drew | with_reducible apply Mo.alloc)) hm2; have m3 := m1.trans m2; obtain ⟨⟨i0, i1, i2, i3⟩, ff, x1⟩ := n.mo m3; have ff := fun o => ff o))
   all_goals
    go_wp2
    go_meet
    case rel => exact ⟨(v.mo m3).setk hk _, (n.mo m3).same _⟩
  case rest =>
   clear v n
   obtain ⟨v, n⟩ := hcut
   go_upto_region 3 with fail
   go_cut [5] from 21 to 25 (fun s5 wx => s5 = .bool (un (A - B)) ∧ AtN wx (w.heap.size + 1 + 1) (A - B) ∧ Mo w wx)
   case first =>
    have hcm := Hcm.out
    have vz := v
    have nz := n
    obtain ⟨_, ⟨⟨c0, c1, c2, c3⟩, _, x1⟩, ⟨⟨d0, d1, d2, d3⟩, _, x2⟩, _, _, x3⟩ := vz
    obtain ⟨⟨i0, i1, i2, i3⟩, _, x0⟩ := nz
    have ne : ¬ k = w.heap.size + 1 + 1 := by omega
    go_region_held3 (fun w' => w'.cell? ⟨w.heap.size, 0, none⟩ = some (.int .u64 (l0 A)) ∧ w'.cell? ⟨w.heap.size, 1, none⟩ = some (.int .u64 (l1 A)) ∧ w'.cell? ⟨w.heap.size, 2, none⟩ = some (.int .u64 (l2 A)) ∧ w'.cell? ⟨w.heap.size, 3, none⟩ = some (.int .u64 (l3 A)) ∧ w'.cell? ⟨w.heap.size + 1, 0, none⟩ = some (.int .u64 (l0 B)) ∧ w'.cell? ⟨w.heap.size + 1, 1, none⟩ = some (.int .u64 (l1 B)) ∧ w'.cell? ⟨w.heap.size + 1, 2, none⟩ = some (.int .u64 (l2 B)) ∧ w'.cell? ⟨w.heap.size + 1, 3, none⟩ = some (.int .u64 (l3 B)) ∧ w'.cell? ⟨k, 0, none⟩ = some (.int .u64 (l0 (A - B))) ∧ w'.cell? ⟨k, 1, none⟩ = some (.int .u64 (l1 (A - B))) ∧ w'.cell? ⟨k, 2, none⟩ = some (.int .u64 (l2 (A - B))) ∧ w'.cell? ⟨k, 3, none⟩ = some (.int .u64 (l3 (A - B)))) (simp [go_sem, *])
     (first | (go_at_call 122; refine (cmp16_any (l0 A) (l1 A) (l2 A) (l3 A) (l0 B) (l1 B) (l2 B) (l3 B) _ (u4_lb A) (u4_lb B)).mono ?_; rintro e w1 ⟨rfl, hm1⟩; rw [vl_lb A hA0 hAM, vl_lb B hB0 hBM]; have m1 : Mo wc w1 := Mo.trans (by repeat (first | with_reducible exact Mo.refl _ | with_reducible apply Mo.drew | with_reducible apply Mo.alloc)) hm1; have v1 := v.mo m1; obtain ⟨q1, ⟨⟨c0, c1, c2, c3⟩, _, y1⟩, ⟨⟨d0, d1, d2, d3⟩, _, y2⟩, ⟨⟨e0, e1, e2, e3⟩, fe, y3⟩⟩ := v1; obtain ⟨⟨i0, i1, i2, i3⟩, _, y0⟩ := n.mo m1; have fe := fun o => fe o))
    all_goals
     go_wp2
     go_meet
     case rel =>
      have v1 := v.mo m1
      exact ⟨rfl, v1.2.2.2.same _, v1.1.st4 (by omega) _⟩
   case rest =>
    obtain ⟨rfl, ⟨⟨a0, a1, a2, a3⟩, _, _⟩, hmo⟩ := hcut
    go_wp2
    refine bodyPost_ret (v := .tuple #[nv (A - B), .bool (un (A - B))]) (by simp [results, Tryz.results123, go_sem, a0, a1, a2, a3]) rfl ?_
    exact ⟨rfl, hmo⟩
end Go.Proofs.YtogomodbcjpfiaaGreatDoor

namespace Go.Proofs.YtogomodbcjpfiaaGreatDoor
open Go.RowKit
theorem radd_n (A B : Int) (w : World) (hA0 : 0 ≤ A) (hAM : A < MM) (hB0 : 0 ≤ B) (hBM : B < MM) :
  Calls Tryz.prog 121 #[nv A, nv B] w fun e w' => e = .returned (.tuple #[nv (A + B), .bool (ov (A + B))]) ∧ Mo w w' := by
 have h := radd_any (l0 A) (l1 A) (l2 A) (l3 A) (l0 B) (l1 B) (l2 B) (l3 B) w (u4_lb A) (u4_lb B)
 rw [vl_lb A hA0 hAM, vl_lb B hB0 hBM] at h
 exact h
theorem rcmp_n (A B : Int) (w : World) (hA0 : 0 ≤ A) (hAM : A < MM) (hB0 : 0 ≤ B) (hBM : B < MM) :
  Calls Tryz.prog 122 #[nv A, nv B] w fun e w' => e = .returned (.int .i64 (cm A B)) ∧ Mo w w' := by
 have h := cmp16_any (l0 A) (l1 A) (l2 A) (l3 A) (l0 B) (l1 B) (l2 B) (l3 B) w (u4_lb A) (u4_lb B)
 rw [vl_lb A hA0 hAM, vl_lb B hB0 hBM] at h
 exact h
end Go.Proofs.YtogomodbcjpfiaaGreatDoor

namespace Go.Proofs.YtogomodbcjpfiaaGreatDoor
open Go.RowKit
theorem low_limb (q : Int) (m r : Nat) (hr : r < 64) (_hq : 0 ≤ q) :
  ∃ c : Int, 0 ≤ c ∧ q * 2 ^ (m + r + 1) / 2 ^ m % 18446744073709551616 = c * 2 ^ (r + 1) ∧ c * 2 ^ (r + 1) + 2 ^ r < 18446744073709551616 := by
 have hm : (0 : Int) < 2 ^ m := Int.pow_pos (by decide)
 have hp : (0 : Int) < 2 ^ (r + 1) := Int.pow_pos (by decide)
 have hp0 : (0 : Int) < 2 ^ r := Int.pow_pos (by decide)
 have hp2 : (0 : Int) < 2 ^ (63 - r) := Int.pow_pos (by decide)
 have e1 : q * 2 ^ (m + r + 1) / 2 ^ m = 2 ^ (r + 1) * q := by
  rw [Nat.add_assoc, Int.pow_add, Int.mul_left_comm, Int.mul_ediv_cancel_left _ (by omega), Int.mul_comm]
 have e2 : (18446744073709551616 : Int) = 2 ^ (r + 1) * 2 ^ (63 - r) := by
  rw [← Int.pow_add, show r + 1 + (63 - r) = 64 from by omega]; decide
 have a := Int.emod_nonneg q (show (2 : Int) ^ (63 - r) ≠ 0 by omega)
 have b := Int.emod_lt_of_pos q hp2
 refine ⟨q % 2 ^ (63 - r), a, ?_, ?_⟩
 ·rw [e1, e2, Int.mul_emod_mul_of_pos _ _ hp, Int.mul_comm]
 ·have e3 : q % 2 ^ (63 - r) * 2 ^ (r + 1) ≤ (2 ^ (63 - r) - 1) * 2 ^ (r + 1) := Int.mul_le_mul_of_nonneg_right (by omega) (by omega)
  rw [Int.sub_mul, Int.one_mul, Int.mul_comm (2 ^ (63 - r)), ← e2] at e3
  have e4 : (2 : Int) ^ (r + 1) = 2 ^ r * 2 := Int.pow_succ 2 r
  omega
theorem or_bit {x : Int} {r : Nat} (c : Int) (hc : 0 ≤ c) (h : x = c * 2 ^ (r + 1)) (h2 : c * 2 ^ (r + 1) + 2 ^ r < 18446744073709551616) : bits .or .u64 x (2 ^ r) = x + 2 ^ r := by
 have hp0 : (0 : Int) < 2 ^ r := Int.pow_pos (by decide)
 have e4 : (2 : Int) ^ (r + 1) = 2 ^ r * 2 := Int.pow_succ 2 r
 rw [h]
 exact or_join c (2 ^ r) (r + 1) hc (by omega) (by omega) h2
theorem Qlt {q : Int} {i : Nat} (hi : i < 256) (hq : q < 2 ^ (255 - i)) : q * 2 ^ (i + 1) < MM ∧ q * 2 ^ (i + 1) + 2 ^ i < MM := by
 have hp0 : (0 : Int) < 2 ^ i := Int.pow_pos (by decide)
 have e4 : (2 : Int) ^ (i + 1) = 2 ^ i * 2 := Int.pow_succ 2 i
 have e1 : q * 2 ^ (i + 1) ≤ (2 ^ (255 - i) - 1) * 2 ^ (i + 1) := Int.mul_le_mul_of_nonneg_right (by omega) (by omega)
 rw [Int.sub_mul, Int.one_mul, ← Int.pow_add, show 255 - i + (i + 1) = 256 from by omega, show (2 : Int) ^ 256 = MM from by decide] at e1
 omega
theorem bit_set {q : Int} {i : Nat} (hi : i < 256) (hq0 : 0 ≤ q) (hq : q < 2 ^ (255 - i)) (r : Nat) (hr : r = i % 64) :
  (i / 64 = 0 ∧ bits .or .u64 (l0 (q * 2 ^ (i + 1))) (2 ^ r) = l0 (q * 2 ^ (i + 1) + 2 ^ i) ∧ l1 (q * 2 ^ (i + 1) + 2 ^ i) = l1 (q * 2 ^ (i + 1)) ∧ l2 (q * 2 ^ (i + 1) + 2 ^ i) = l2 (q * 2 ^ (i + 1)) ∧ l3 (q * 2 ^ (i + 1) + 2 ^ i) = l3 (q * 2 ^ (i + 1))) ∨
  (i / 64 = 1 ∧ bits .or .u64 (l1 (q * 2 ^ (i + 1))) (2 ^ r) = l1 (q * 2 ^ (i + 1) + 2 ^ i) ∧ l0 (q * 2 ^ (i + 1) + 2 ^ i) = l0 (q * 2 ^ (i + 1)) ∧ l2 (q * 2 ^ (i + 1) + 2 ^ i) = l2 (q * 2 ^ (i + 1)) ∧ l3 (q * 2 ^ (i + 1) + 2 ^ i) = l3 (q * 2 ^ (i + 1))) ∨
  (i / 64 = 2 ∧ bits .or .u64 (l2 (q * 2 ^ (i + 1))) (2 ^ r) = l2 (q * 2 ^ (i + 1) + 2 ^ i) ∧ l0 (q * 2 ^ (i + 1) + 2 ^ i) = l0 (q * 2 ^ (i + 1)) ∧ l1 (q * 2 ^ (i + 1) + 2 ^ i) = l1 (q * 2 ^ (i + 1)) ∧ l3 (q * 2 ^ (i + 1) + 2 ^ i) = l3 (q * 2 ^ (i + 1))) ∨
  (i / 64 = 3 ∧ bits .or .u64 (l3 (q * 2 ^ (i + 1))) (2 ^ r) = l3 (q * 2 ^ (i + 1) + 2 ^ i) ∧ l0 (q * 2 ^ (i + 1) + 2 ^ i) = l0 (q * 2 ^ (i + 1)) ∧ l1 (q * 2 ^ (i + 1) + 2 ^ i) = l1 (q * 2 ^ (i + 1)) ∧ l2 (q * 2 ^ (i + 1) + 2 ^ i) = l2 (q * 2 ^ (i + 1))) := by
 have hQ := (Qlt hi hq).1
 have hp : (0 : Int) < 2 ^ (i + 1) := Int.pow_pos (by decide)
 have hQ0 : 0 ≤ q * 2 ^ (i + 1) := Int.mul_nonneg hq0 (by omega)
 have hV := vl_lb _ hQ0 hQ
 obtain ⟨u0, u1, u2, u3⟩ := u4_lb (q * 2 ^ (i + 1))
 have hr64 : r < 64 := by omega
 have hp0 : (0 : Int) < 2 ^ r := Int.pow_pos (by decide)
 have hm : i / 64 = 0 ∨ i / 64 = 1 ∨ i / 64 = 2 ∨ i / 64 = 3 := by omega
 rcases hm with hm | hm | hm | hm
 ·refine Or.inl ⟨hm, ?_⟩
  obtain ⟨c, c0, c1, c2⟩ := low_limb q 0 r hr64 hq0
  have e : i = 0 + r := by omega
  have el : l0 (q * 2 ^ (i + 1)) = c * 2 ^ (r + 1) := by rw [← c1, e]; unfold l0; simp
  have ep : (2 : Int) ^ i = 2 ^ r := by rw [e]; simp
  rw [or_bit c c0 el c2]
  have hu : U4 (l0 (q * 2 ^ (i + 1)) + 2 ^ r) (l1 (q * 2 ^ (i + 1))) (l2 (q * 2 ^ (i + 1))) (l3 (q * 2 ^ (i + 1))) := ⟨⟨by have := u0.1; omega, by omega⟩, u1, u2, u3⟩
  have ev : q * 2 ^ (i + 1) + 2 ^ i = vl (l0 (q * 2 ^ (i + 1)) + 2 ^ r) (l1 (q * 2 ^ (i + 1))) (l2 (q * 2 ^ (i + 1))) (l3 (q * 2 ^ (i + 1))) := by
   rw [ep]; unfold vl at *; omega
  rw [ev, l0_vl hu, l1_vl hu, l2_vl hu, l3_vl hu]
  exact ⟨rfl, rfl, rfl, rfl⟩
 ·refine Or.inr (Or.inl ⟨hm, ?_⟩)
  obtain ⟨c, c0, c1, c2⟩ := low_limb q 64 r hr64 hq0
  have e : i = 64 + r := by omega
  have el : l1 (q * 2 ^ (i + 1)) = c * 2 ^ (r + 1) := by rw [← c1, e]; unfold l1; rfl
  have ep : (2 : Int) ^ i = 18446744073709551616 * 2 ^ r := by rw [e, Int.pow_add]; rfl
  rw [or_bit c c0 el c2]
  have hu : U4 (l0 (q * 2 ^ (i + 1))) (l1 (q * 2 ^ (i + 1)) + 2 ^ r) (l2 (q * 2 ^ (i + 1))) (l3 (q * 2 ^ (i + 1))) := ⟨u0, ⟨by have := u1.1; omega, by omega⟩, u2, u3⟩
  have ev : q * 2 ^ (i + 1) + 2 ^ i = vl (l0 (q * 2 ^ (i + 1))) (l1 (q * 2 ^ (i + 1)) + 2 ^ r) (l2 (q * 2 ^ (i + 1))) (l3 (q * 2 ^ (i + 1))) := by
   rw [ep]; unfold vl at *; omega
  rw [ev, l0_vl hu, l1_vl hu, l2_vl hu, l3_vl hu]
  exact ⟨rfl, rfl, rfl, rfl⟩
 ·refine Or.inr (Or.inr (Or.inl ⟨hm, ?_⟩))
  obtain ⟨c, c0, c1, c2⟩ := low_limb q 128 r hr64 hq0
  have e : i = 128 + r := by omega
  have el : l2 (q * 2 ^ (i + 1)) = c * 2 ^ (r + 1) := by rw [← c1, e]; unfold l2; rfl
  have ep : (2 : Int) ^ i = 340282366920938463463374607431768211456 * 2 ^ r := by rw [e, Int.pow_add]; rfl
  rw [or_bit c c0 el c2]
  have hu : U4 (l0 (q * 2 ^ (i + 1))) (l1 (q * 2 ^ (i + 1))) (l2 (q * 2 ^ (i + 1)) + 2 ^ r) (l3 (q * 2 ^ (i + 1))) := ⟨u0, u1, ⟨by have := u2.1; omega, by omega⟩, u3⟩
  have ev : q * 2 ^ (i + 1) + 2 ^ i = vl (l0 (q * 2 ^ (i + 1))) (l1 (q * 2 ^ (i + 1))) (l2 (q * 2 ^ (i + 1)) + 2 ^ r) (l3 (q * 2 ^ (i + 1))) := by
   rw [ep]; unfold vl at *; omega
  rw [ev, l0_vl hu, l1_vl hu, l2_vl hu, l3_vl hu]
  exact ⟨rfl, rfl, rfl, rfl⟩
 ·refine Or.inr (Or.inr (Or.inr ⟨hm, ?_⟩))
  obtain ⟨c, c0, c1, c2⟩ := low_limb q 192 r hr64 hq0
  have e : i = 192 + r := by omega
  have el : l3 (q * 2 ^ (i + 1)) = c * 2 ^ (r + 1) := by rw [← c1, e]; unfold l3; rfl
  have ep : (2 : Int) ^ i = 6277101735386680763835789423207666416102355444464034512896 * 2 ^ r := by rw [e, Int.pow_add]; rfl
  rw [or_bit c c0 el c2]
  have hu : U4 (l0 (q * 2 ^ (i + 1))) (l1 (q * 2 ^ (i + 1))) (l2 (q * 2 ^ (i + 1))) (l3 (q * 2 ^ (i + 1)) + 2 ^ r) := ⟨u0, u1, u2, ⟨by have := u3.1; omega, by omega⟩⟩
  have ev : q * 2 ^ (i + 1) + 2 ^ i = vl (l0 (q * 2 ^ (i + 1))) (l1 (q * 2 ^ (i + 1))) (l2 (q * 2 ^ (i + 1))) (l3 (q * 2 ^ (i + 1)) + 2 ^ r) := by
   rw [ep]; unfold vl at *; omega
  rw [ev, l0_vl hu, l1_vl hu, l2_vl hu, l3_vl hu]
  exact ⟨rfl, rfl, rfl, rfl⟩
def nj (H L : Int) (j : Nat) : Int := H * 2 ^ (256 - j) + L / 2 ^ j
theorem nj_top (H : Int) {L : Int} (h0 : 0 ≤ L) (h : L < MM) : nj H L 256 = H := by
 unfold nj
 rw [show (2 : Int) ^ 256 = MM from by decide, Int.ediv_eq_zero_of_lt h0 h]
 simp
theorem nj_low (H L : Int) : nj H L 0 = H * MM + L := by
 unfold nj
 rw [show (256 - 0 : Nat) = 256 from rfl, show (2 : Int) ^ 256 = MM from by decide]
 simp
theorem nj_step (H L : Int) {i : Nat} (hi : i < 256) : nj H L i = 2 * nj H L (i + 1) + L / 2 ^ i % 2 := by
 unfold nj
 have e1 : (2 : Int) ^ (256 - i) = 2 ^ (256 - (i + 1)) * 2 := by rw [← Int.pow_succ]; congr 1; omega
 have e2 : L / 2 ^ (i + 1) = L / 2 ^ i / 2 := by
  rw [Int.pow_succ, Int.ediv_ediv_of_nonneg (Int.le_of_lt (Int.pow_pos (by decide)))]
 rw [e1, e2, ← Int.mul_assoc]
 omega
theorem div_no_step {q R D H L : Int} {i : Nat} (hi : i < 256) (h : q * D + R = nj H L (i + 1)) : 2 * q * D + (2 * R + L / 2 ^ i % 2) = nj H L i := by
 rw [nj_step H L hi, ← h, Int.mul_assoc]; omega
theorem div_yes_step {q R D H L : Int} {i : Nat} (hi : i < 256) (h : q * D + R = nj H L (i + 1)) : (2 * q + 1) * D + (2 * R + L / 2 ^ i % 2 - D) = nj H L i := by
 rw [nj_step H L hi, ← h, Int.add_mul, Int.mul_assoc]; omega
theorem q_no {q : Int} {i : Nat} (hi : i < 256) (hq : q < 2 ^ (255 - i)) : 2 * q < 2 ^ (256 - i) ∧ 2 * q + 1 < 2 ^ (256 - i) := by
 have e1 : (2 : Int) ^ (256 - i) = 2 ^ (255 - i) * 2 := by rw [← Int.pow_succ]; congr 1; omega
 omega
theorem div_end {q R D H L : Int} (hR0 : 0 ≤ R) (hR : R < D) (h : q * D + R = H * MM + L) : (H * MM + L) / D = q ∧ (H * MM + L) % D = R := by
 rw [← h]
 constructor
 ·rw [Int.add_comm, Int.add_mul_ediv_right _ _ (by omega), Int.ediv_eq_zero_of_lt hR0 hR, Int.zero_add]
 ·rw [Int.add_comm, Int.add_mul_emod_self_right, Int.emod_eq_of_lt hR0 hR]
theorem q_pow (q : Int) (i : Nat) : 2 * q * 2 ^ i = q * 2 ^ (i + 1) := by rw [Int.pow_succ]; grind
theorem q_pow1 (q : Int) (i : Nat) : (2 * q + 1) * 2 ^ i = q * 2 ^ (i + 1) + 2 ^ i := by rw [Int.pow_succ]; grind
end Go.Proofs.YtogomodbcjpfiaaGreatDoor

namespace Go.Proofs.YtogomodbcjpfiaaGreatDoor
open Go.RowKit
theorem and_one (a : Int) (h0 : 0 ≤ a) (h1 : a < 18446744073709551616) : bits .and .u64 a 1 = a % 2 := by
 obtain ⟨x, rfl⟩ := Int.eq_ofNat_of_zero_le h0
 have e := bits_and_u64_nat x 1 (by omega) (by decide)
 rw [Nat.and_one_is_mod] at e
 rw [show ((1 : Nat) : Int) = 1 from rfl] at e
 rw [e]; omega
theorem sh_bd {a : Int} (h : U1 a) (r : Nat) : 0 ≤ a / 2 ^ r ∧ a / 2 ^ r < 18446744073709551616 := by
 obtain ⟨p, q⟩ := h
 have hp : (0 : Int) < 2 ^ r := Int.pow_pos (by decide)
 refine ⟨Int.ediv_nonneg p (by omega), ?_⟩
 have := Int.ediv_le_self (2 ^ r) p
 omega
set_option maxHeartbeats 1000000 in
theorem bit_any (n : Int) (i : Nat) (w : World) (_hn0 : 0 ≤ n) (_hn : n < MM) (hi : i < 256) :
  Calls Tryz.prog 125 #[nv n, .int .i64 (i : Int)] w fun e w' => e = .returned (.int .u64 (n / 2 ^ i % 2)) ∧ Mo w w' := by
 have fin : ∀ (r : Int) (w' : World), r = n / 2 ^ i % 2 → Mo w w' → (Ending.returned (.int .u64 r) = .returned (.int .u64 (n / 2 ^ i % 2)) ∧ Mo w w') := fun r w' h m => ⟨by rw [h], m⟩
 obtain ⟨r, hr, er⟩ : ∃ r : Nat, r < 64 ∧ (i : Int) % 64 = (r : Int) := ⟨i % 64, by omega, by omega⟩
 have u := u4_lb n
 obtain ⟨u0, u1, u2, u3⟩ := u
 have s0 := sh_bd u0 r
 have s1 := sh_bd u1 r
 have s2 := sh_bd u2 r
 have s3 := sh_bd u3 r
 have t0 := and_one _ s0.1 s0.2
 have t1 := and_one _ s1.1 s1.2
 have t2 := and_one _ s2.1 s2.2
 have t3 := and_one _ s3.1 s3.2
 clear s0 s1 s2 s3
 obtain ⟨p0, q0⟩ := u0
 obtain ⟨p1, q1⟩ := u1
 obtain ⟨p2, q2⟩ := u2
 obtain ⟨p3, q3⟩ := u3
 have hq : (i : Int) / 64 = 0 ∨ (i : Int) / 64 = 1 ∨ (i : Int) / 64 = 2 ∨ (i : Int) / 64 = 3 := by omega
 rcases hq with hq | hq | hq | hq
 ·go_enter Tryz.func125, Tryz.ntmps125
  go_wp2
  go_ret
  refine fin _ _ ?_ ((Mo.refl _).alloc _ _)
  rw [show i = r from by omega, ← bit_low (l0 n) (n / 18446744073709551616) r hr, show l0 n + 18446744073709551616 * (n / 18446744073709551616) = n from by unfold l0; omega]
 ·go_enter Tryz.func125, Tryz.ntmps125
  go_wp2
  go_ret
  refine fin _ _ ?_ ((Mo.refl _).alloc _ _)
  rw [show i = 64 + r from by omega, div_pow_split, ← bit_low (l1 n) (n / 340282366920938463463374607431768211456) r hr, show l1 n + 18446744073709551616 * (n / 340282366920938463463374607431768211456) = n / 2 ^ 64 from by unfold l1; omega]
 ·go_enter Tryz.func125, Tryz.ntmps125
  go_wp2
  go_ret
  refine fin _ _ ?_ ((Mo.refl _).alloc _ _)
  rw [show i = 128 + r from by omega, div_pow_split, ← bit_low (l2 n) (n / 6277101735386680763835789423207666416102355444464034512896) r hr, show l2 n + 18446744073709551616 * (n / 6277101735386680763835789423207666416102355444464034512896) = n / 2 ^ 128 from by unfold l2; omega]
 ·go_enter Tryz.func125, Tryz.ntmps125
  go_wp2
  go_ret
  refine fin _ _ ?_ ((Mo.refl _).alloc _ _)
  rw [show i = 192 + r from by omega, div_pow_split, ← bit_low (l3 n) (n / MM) r hr, show l3 n + 18446744073709551616 * (n / MM) = n / 2 ^ 192 from by unfold l3 MM; omega]
end Go.Proofs.YtogomodbcjpfiaaGreatDoor


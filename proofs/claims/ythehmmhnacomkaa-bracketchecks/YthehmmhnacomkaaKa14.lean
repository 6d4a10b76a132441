/-
  A part of the proof.
-/
import Derived.Test.YthehmmhnacomkaaKa13
import Derived.Test.YthehmmhnacomkaaKa12
import Derived.Test.YthehmmhnacomkaaKa10
import Derived.Test.YthehmmhnacomkaaKa9
import Derived.Test.YthehmmhnacomkaaKa8
import Derived.Test.YthehmmhnacomkaaKa5
import Derived.Test.YthehmmhnacomkaaKa3
import Derived.Test.YthehmmhnacomkaaKa1
import Derived.Test.YthehmmhnacomkaaProg
import Derived.WalkKit
import Derived.WalkSpells
import Derived.Handy
import Derived.BigQuiet
import Derived.Deep.RegionHeld3
import Derived.Test.YthehmmhnacomkaaKa4
import Derived.Shelf.Small.Bits
import Derived.Shelf.Strconv.Itoa0
import Derived.Shelf.Bits.Mul64
import Derived.Deep.CutBlock
import Derived.Deep.CutRange
import Derived.Test.YthehmmhnacomkaaKa7
import Derived.Test.YthehmmhnacomkaaKa6
import Derived.ChangeKeysEq
import Derived.ScopeJumps
import Derived.WalkMore
import Derived.Laws.StructEq
import Derived.Deep.MidRow
import Derived.Test.YthehmmhnacomkaaKa11
import Derived.Test.YthehmmhnacomkaaKa2
import Derived.RegionTactic
import Derived.BigCall
namespace Go.Proofs.Ythehmmhnacomkaa
open Go.RowKit
set_option maxHeartbeats 8000000 in
theorem mulTo_over (b c : Bool) (n m s t S p : Int) (w : World) (hn0 : 0 ≤ n) (hn : n < MM) (hm0 : 0 ≤ m) (hm : m < MM) (h1 : ck b n s = 0) (h2 : ck c m t = 0) (hS : sc S = true) (hp1 : 1 ≤ p) (hp5 : p ≤ 5) (g : Nat) (hf : s + t - S = -(g : Int)) (hg : g ≤ 18) (hs : 0 ≤ s ∧ s ≤ 18) (ht : 0 ≤ t ∧ t ≤ 18) (hr : MM ≤ n * m) :
  Calls Try.prog 51 #[dc b n s, dc c m t, .int .i64 S, .int .i64 p] w fun e w' => e = .returned (er 7) ∧ Mo w w' := by
 have bX := prod_bd hn0 hn hm0 hm
 have q4 := eq4
 have hst : IntKind.i64.wrap (s + t) = s + t := by rw [IntKind.wrap_i64]; omega
 have hff : IntKind.i64.wrap (-(g : Int)) = -(g : Int) := by rw [IntKind.wrap_i64]; omega
 have hgg : IntKind.i64.wrap (g : Int) = (g : Int) := by rw [IntKind.wrap_i64]; omega
 have hd : decide (-(g : Int) > 0) = false := decide_eq_false (by omega)
 have HF : Hid _ := hf
 have z4 : (l0 (n * m / MM) == 0 && (l1 (n * m / MM) == 0 && (l2 (n * m / MM) == 0 && l3 (n * m / MM) == 0))) = false := by
  have pp : (0 : Int) < MM := by decide
  rw [zero4 (Int.ediv_nonneg bX.1 (by omega)) (Int.ediv_lt_of_lt_mul pp bX.2)]
  refine decide_eq_false fun h => ?_
  have := Int.lt_mul_of_ediv_lt pp (show n * m / MM < 1 by omega)
  omega
 clear bX hf hr
 have hsz := dwa_size
 have rst := st81
 have rn1 := there_new
 have rc := cell_sc
 go_enter Try.func51, Try.ntmps51
 go_wp2_with fail
 refine (both_ok b n s c m t _ hn0 hn hm0 hm h1 h2).mono ?_
 rintro e w1 ⟨rfl, hm1⟩
 have mz : Mo w w1 := Mo.trans (by repeat (first | with_reducible exact Mo.refl _ | with_reducible apply Mo.drew | with_reducible apply Mo.alloc)) hm1
 have M := mz
 have Qa : AtD w1 (w.heap.size) b n s := AtD.mo ⟨by simp [go_sem], fun o => by simp [go_sem], by simp <;> omega⟩ hm1
 have Qb : AtD w1 (w.heap.size + 1) c m t := AtD.mo ⟨by simp [go_sem], fun o => by simp [go_sem], by simp <;> omega⟩ hm1
 have Qr : AtD w1 (w.heap.size + 1 + 1) false 0 0 := AtD.mo ⟨by simp [go_sem, zl0, zl1, zl2, zl3], fun o => by simp [go_sem], by simp <;> omega⟩ hm1
 clear hm1 mz
 have Oa := Qa
 obtain ⟨⟨ca0, ca1, ca2, ca3, ca4, ca5⟩, fa, sa⟩ := Oa
 have fa := fun o => fa o
 have sxa : w.heap.size < w1.heap.size + 1 := by omega
 have sya : w.heap.size < w1.heap.size + 1 + 1 := by omega
 have Ob := Qb
 obtain ⟨⟨cb0, cb1, cb2, cb3, cb4, cb5⟩, fb, sb⟩ := Ob
 have fb := fun o => fb o
 have sxb : w.heap.size + 1 < w1.heap.size + 1 := by omega
 have syb : w.heap.size + 1 < w1.heap.size + 1 + 1 := by omega
 have Or := Qr
 obtain ⟨⟨cr0, cr1, cr2, cr3, cr4, cr5⟩, fr, sr⟩ := Or
 have fr := fun o => fr o
 have sxr : w.heap.size + 1 + 1 < w1.heap.size + 1 := by omega
 have syr : w.heap.size + 1 + 1 < w1.heap.size + 1 + 1 := by omega
 go_wp2_with fail
 refine (cr_ok S p _ hS hp1 hp5).mono ?_
 rintro e w2 ⟨rfl, hm2⟩
 have mz : Mo w1 w2 := Mo.trans (by repeat (first | with_reducible exact Mo.refl _ | with_reducible apply Mo.drew | with_reducible apply Mo.alloc)) hm2
 have zw1a := sa
 have zw1b := sb
 have zw1r := sr
 clear ca0 ca1 ca2 ca3 ca4 ca5 fa sa sxa sya cb0 cb1 cb2 cb3 cb4 cb5 fb sb sxb syb cr0 cr1 cr2 cr3 cr4 cr5 fr sr sxr syr
 have Qa := Qa.mo mz
 have Qb := Qb.mo mz
 have Qr := Qr.mo mz
 have M := M.trans mz
 clear hm2 mz
 have Oa := Qa
 obtain ⟨⟨ca0, ca1, ca2, ca3, ca4, ca5⟩, fa, sa⟩ := Oa
 have fa := fun o => fa o
 have sxa : w.heap.size < w2.heap.size + 1 := by omega
 have sya : w.heap.size < w2.heap.size + 1 + 1 := by omega
 have Ob := Qb
 obtain ⟨⟨cb0, cb1, cb2, cb3, cb4, cb5⟩, fb, sb⟩ := Ob
 have fb := fun o => fb o
 have sxb : w.heap.size + 1 < w2.heap.size + 1 := by omega
 have syb : w.heap.size + 1 < w2.heap.size + 1 + 1 := by omega
 have Or := Qr
 obtain ⟨⟨cr0, cr1, cr2, cr3, cr4, cr5⟩, fr, sr⟩ := Or
 have fr := fun o => fr o
 have sxr : w.heap.size + 1 + 1 < w2.heap.size + 1 := by omega
 have syr : w.heap.size + 1 + 1 < w2.heap.size + 1 + 1 := by omega
 go_upto_region 7 with fail
 have nw2a : ¬ w.heap.size = w2.heap.size := (by omega)
 have nw2b : ¬ w.heap.size + 1 = w2.heap.size := (by omega)
 go_cut [12, 13] from 29 to 38 (fun s12 s13 wx => ∃ k, s12 = .bool (b != c) ∧ s13 = .pointer (some ⟨k, 0, none⟩) ∧ w.heap.size + 1 + 1 < k ∧ Mo w wx ∧ AtD wx w.heap.size b n s ∧ AtD wx (w.heap.size + 1) c m t ∧ AtD wx (w.heap.size + 1 + 1) false 0 0 ∧ AtX wx k (n * m))
 case first =>
  go_region_held3 (fun w' => w'.cell? ⟨w.heap.size, 0, none⟩ = some (.bool b) ∧ w'.cell? ⟨w.heap.size, 1, none⟩ = some (.int .u64 (l0 n)) ∧ w'.cell? ⟨w.heap.size, 2, none⟩ = some (.int .u64 (l1 n)) ∧ w'.cell? ⟨w.heap.size, 3, none⟩ = some (.int .u64 (l2 n)) ∧ w'.cell? ⟨w.heap.size, 4, none⟩ = some (.int .u64 (l3 n)) ∧ w'.cell? ⟨w.heap.size + 1, 0, none⟩ = some (.bool c) ∧ w'.cell? ⟨w.heap.size + 1, 1, none⟩ = some (.int .u64 (l0 m)) ∧ w'.cell? ⟨w.heap.size + 1, 2, none⟩ = some (.int .u64 (l1 m)) ∧ w'.cell? ⟨w.heap.size + 1, 3, none⟩ = some (.int .u64 (l2 m)) ∧ w'.cell? ⟨w.heap.size + 1, 4, none⟩ = some (.int .u64 (l3 m))) (simp [go_sem, *])
   (first | (go_at_call 67; refine (mulDouble_x n m _ hn0 hn hm0 hm).mono ?_; rintro e w3 ⟨rfl, hm3⟩; have m3 : Mo w2 w3 := Mo.trans (by repeat (first | with_reducible exact Mo.refl _ | with_reducible apply Mo.drew | with_reducible apply Mo.alloc)) hm3; obtain ⟨⟨e0, e1, e2, e3, e4, e5⟩, _, es⟩ := Qa.mo m3; obtain ⟨⟨f0, f1, f2, f3, f4, f5⟩, _, fs⟩ := Qb.mo m3; have nw3a : ¬ w.heap.size = w3.heap.size := (by omega); have nw3b : ¬ w.heap.size + 1 = w3.heap.size := (by omega); (first | (with_reducible have pq := T81.mk1 hm3; obtain ⟨p1, pz⟩ := pq) | (with_reducible have pq := T81.mk2 hm3; obtain ⟨p1, pz⟩ := pq) | skip)))
  all_goals
   go_wp2
   go_meet
   case rel =>
    have zr := (Qr.mo m3).2.2
    refine ⟨_, by cases b <;> cases c <;> rfl, rfl, by omega, ?_, ?_, ?_, ?_, ?_⟩
    ·have MM1 := M.trans m3
     first | with_reducible exact Mo.setCells (by omega) _ _ _ MM1 | with_reducible exact Mo.setCells (by omega) _ _ _ (MM1.alloc _ _)
    ·have q := Qa.mo m3
     first | with_reducible exact q.other (by omega) _ | with_reducible exact (q.mo ((Mo.refl _).alloc _ _)).other (by omega) _
    ·have q := Qb.mo m3
     first | with_reducible exact q.other (by omega) _ | with_reducible exact (q.mo ((Mo.refl _).alloc _ _)).other (by omega) _
    ·have q := Qr.mo m3
     first | with_reducible exact q.other (by omega) _ | with_reducible exact (q.mo ((Mo.refl _).alloc _ _)).other (by omega) _
    ·first | with_reducible exact AtX.same _ p1 (by omega) | exact AtX.same _ (there_new _) (by simp)
 case rest =>
  clear ca0 ca1 ca2 ca3 ca4 ca5 fa sa sxa sya cb0 cb1 cb2 cb3 cb4 cb5 fb sb sxb syb cr0 cr1 cr2 cr3 cr4 cr5 fr sr sxr syr Qa Qb Qr M nw2a nw2b rst rn1 rc
  obtain ⟨k, rfl, rfl, hk, M, Qa, Qb, Qr, Qx⟩ := hcut
  obtain ⟨X, hX⟩ : ∃ X, X = n * m := ⟨_, rfl⟩
  rw [← hX] at Qx
  have HX : Hid _ := hX
  clear hX
  generalize hnb : (b != c) = nb at *
  have HN : Hid _ := hnb
  clear hnb
  have xl := ld81 wc k X Qx.1
  have xc := Qx.cells
  obtain ⟨x0, x1, x2, x3, x4, x5, x6, x7⟩ := xc
  have Oa := Qa
  obtain ⟨⟨ca0, ca1, ca2, ca3, ca4, ca5⟩, fa, sa⟩ := Oa
  have fa := fun o => fa o
  have sxa : w.heap.size < wc.heap.size + 1 := by omega
  have sya : w.heap.size < wc.heap.size + 1 + 1 := by omega
  have Ob := Qb
  obtain ⟨⟨cb0, cb1, cb2, cb3, cb4, cb5⟩, fb, sb⟩ := Ob
  have fb := fun o => fb o
  have sxb : w.heap.size + 1 < wc.heap.size + 1 := by omega
  have syb : w.heap.size + 1 < wc.heap.size + 1 + 1 := by omega
  have Or := Qr
  obtain ⟨⟨cr0, cr1, cr2, cr3, cr4, cr5⟩, fr, sr⟩ := Or
  have fr := fun o => fr o
  have sxr : w.heap.size + 1 + 1 < wc.heap.size + 1 := by omega
  have syr : w.heap.size + 1 + 1 < wc.heap.size + 1 + 1 := by omega
  have hf := HF.out
  rw [← HX.out] at z4
  go_wp2
  refine bodyPost_ret (v := er 7) (by simp [results, Try.results51, go_sem, *]) rfl ?_
  refine ⟨rfl, ?_⟩
  repeat (first | with_reducible exact M | with_reducible exact Mo.refl _ | with_reducible apply Mo.drew | with_reducible apply Mo.drewN | with_reducible apply Mo.alloc | with_reducible refine Mo.setCell ?_ (by simp <;> omega) _)
set_option maxHeartbeats 8000000 in
theorem mulTo_up_room (b c : Bool) (n m s t S p : Int) (w : World) (hn0 : 0 ≤ n) (hn : n < MM) (hm0 : 0 ≤ m) (hm : m < MM) (h1 : ck b n s = 0) (h2 : ck c m t = 0) (hS : sc S = true) (hp1 : 1 ≤ p) (hp5 : p ≤ 5) (g : Nat) (hf : s + t - S = -(g : Int)) (hg : g ≤ 18) (hs : 0 ≤ s ∧ s ≤ 18) (ht : 0 ≤ t ∧ t ≤ 18) (hx : n * m < MM) (hr : n * m * 10 ^ g < MM) :
  Calls Try.prog 51 #[dc b n s, dc c m t, .int .i64 S, .int .i64 p] w fun e w' => e = .returned (.tuple #[dz (sv (b != c) (n * m * 10 ^ g)) S, .int .i64 0]) ∧ Mo w w' := by
 have bX := prod_bd hn0 hn hm0 hm
 have q4 := eq4
 have hst : IntKind.i64.wrap (s + t) = s + t := by rw [IntKind.wrap_i64]; omega
 have hff : IntKind.i64.wrap (-(g : Int)) = -(g : Int) := by rw [IntKind.wrap_i64]; omega
 have hgg : IntKind.i64.wrap (g : Int) = (g : Int) := by rw [IntKind.wrap_i64]; omega
 have hd : decide (-(g : Int) > 0) = false := decide_eq_false (by omega)
 have HF : Hid _ := hf
 have z4 : (l0 (n * m / MM) == 0 && (l1 (n * m / MM) == 0 && (l2 (n * m / MM) == 0 && l3 (n * m / MM) == 0))) = true := by
  rw [Int.ediv_eq_zero_of_lt bX.1 hx]; rfl
 have hg77 : g ≤ 77 := by omega
 have tb := ten_bd g hg77
 have hten : ∀ w, Calls Try.prog 68 #[.int .i64 (g : Int)] w fun e w' => e = .returned (nv (10 ^ g)) ∧ Mo w w' := fun w => dten_n g w hg77
 have hmul : ∀ w, Calls Try.prog 67 #[nv (n * m), nv (10 ^ g)] w fun e w' => e = .returned (dx (n * m * 10 ^ g)) ∧ Mo w w' := fun w => mulDouble_x (n * m) (10 ^ g) w bX.1 hx (by omega) tb.2
 have hfit : ∀ w, Calls Try.prog 72 #[.bool (b != c), dx (n * m * 10 ^ g), .int .i64 S] w fun e w' => e = .returned (.tuple #[dz (sv (b != c) (n * m * 10 ^ g)) S, .int .i64 0]) ∧ Mo w w' := fun w => fit_room (b != c) (n * m * 10 ^ g) S w (Int.mul_nonneg bX.1 (by omega)) hr
 clear bX hf hr hx tb
 obtain ⟨T, hT⟩ : ∃ T : Int, T = 10 ^ g := ⟨_, rfl⟩
 rw [← hT] at hten hmul hfit
 have HT : Hid _ := hT
 clear hT
 have hsz := dwa_size
 have rst := st81
 have rn1 := there_new
 have rc := cell_sc
 go_enter Try.func51, Try.ntmps51
 go_wp2_with fail
 refine (both_ok b n s c m t _ hn0 hn hm0 hm h1 h2).mono ?_
 rintro e w1 ⟨rfl, hm1⟩
 have mz : Mo w w1 := Mo.trans (by repeat (first | with_reducible exact Mo.refl _ | with_reducible apply Mo.drew | with_reducible apply Mo.alloc)) hm1
 have M := mz
 have Qa : AtD w1 (w.heap.size) b n s := AtD.mo ⟨by simp [go_sem], fun o => by simp [go_sem], by simp <;> omega⟩ hm1
 have Qb : AtD w1 (w.heap.size + 1) c m t := AtD.mo ⟨by simp [go_sem], fun o => by simp [go_sem], by simp <;> omega⟩ hm1
 have Qr : AtD w1 (w.heap.size + 1 + 1) false 0 0 := AtD.mo ⟨by simp [go_sem, zl0, zl1, zl2, zl3], fun o => by simp [go_sem], by simp <;> omega⟩ hm1
 clear hm1 mz
 have Oa := Qa
 obtain ⟨⟨ca0, ca1, ca2, ca3, ca4, ca5⟩, fa, sa⟩ := Oa
 have fa := fun o => fa o
 have sxa : w.heap.size < w1.heap.size + 1 := by omega
 have sya : w.heap.size < w1.heap.size + 1 + 1 := by omega
 have Ob := Qb
 obtain ⟨⟨cb0, cb1, cb2, cb3, cb4, cb5⟩, fb, sb⟩ := Ob
 have fb := fun o => fb o
 have sxb : w.heap.size + 1 < w1.heap.size + 1 := by omega
 have syb : w.heap.size + 1 < w1.heap.size + 1 + 1 := by omega
 have Or := Qr
 obtain ⟨⟨cr0, cr1, cr2, cr3, cr4, cr5⟩, fr, sr⟩ := Or
 have fr := fun o => fr o
 have sxr : w.heap.size + 1 + 1 < w1.heap.size + 1 := by omega
 have syr : w.heap.size + 1 + 1 < w1.heap.size + 1 + 1 := by omega
 go_wp2_with fail
 refine (cr_ok S p _ hS hp1 hp5).mono ?_
 rintro e w2 ⟨rfl, hm2⟩
 have mz : Mo w1 w2 := Mo.trans (by repeat (first | with_reducible exact Mo.refl _ | with_reducible apply Mo.drew | with_reducible apply Mo.alloc)) hm2
 have zw1a := sa
 have zw1b := sb
 have zw1r := sr
 clear ca0 ca1 ca2 ca3 ca4 ca5 fa sa sxa sya cb0 cb1 cb2 cb3 cb4 cb5 fb sb sxb syb cr0 cr1 cr2 cr3 cr4 cr5 fr sr sxr syr
 have Qa := Qa.mo mz
 have Qb := Qb.mo mz
 have Qr := Qr.mo mz
 have M := M.trans mz
 clear hm2 mz
 have Oa := Qa
 obtain ⟨⟨ca0, ca1, ca2, ca3, ca4, ca5⟩, fa, sa⟩ := Oa
 have fa := fun o => fa o
 have sxa : w.heap.size < w2.heap.size + 1 := by omega
 have sya : w.heap.size < w2.heap.size + 1 + 1 := by omega
 have Ob := Qb
 obtain ⟨⟨cb0, cb1, cb2, cb3, cb4, cb5⟩, fb, sb⟩ := Ob
 have fb := fun o => fb o
 have sxb : w.heap.size + 1 < w2.heap.size + 1 := by omega
 have syb : w.heap.size + 1 < w2.heap.size + 1 + 1 := by omega
 have Or := Qr
 obtain ⟨⟨cr0, cr1, cr2, cr3, cr4, cr5⟩, fr, sr⟩ := Or
 have fr := fun o => fr o
 have sxr : w.heap.size + 1 + 1 < w2.heap.size + 1 := by omega
 have syr : w.heap.size + 1 + 1 < w2.heap.size + 1 + 1 := by omega
 go_upto_region 7 with fail
 have nw2a : ¬ w.heap.size = w2.heap.size := (by omega)
 have nw2b : ¬ w.heap.size + 1 = w2.heap.size := (by omega)
 go_cut [12, 13] from 29 to 38 (fun s12 s13 wx => ∃ k, s12 = .bool (b != c) ∧ s13 = .pointer (some ⟨k, 0, none⟩) ∧ w.heap.size + 1 + 1 < k ∧ Mo w wx ∧ AtD wx w.heap.size b n s ∧ AtD wx (w.heap.size + 1) c m t ∧ AtD wx (w.heap.size + 1 + 1) false 0 0 ∧ AtX wx k (n * m))
 case first =>
  go_region_held3 (fun w' => w'.cell? ⟨w.heap.size, 0, none⟩ = some (.bool b) ∧ w'.cell? ⟨w.heap.size, 1, none⟩ = some (.int .u64 (l0 n)) ∧ w'.cell? ⟨w.heap.size, 2, none⟩ = some (.int .u64 (l1 n)) ∧ w'.cell? ⟨w.heap.size, 3, none⟩ = some (.int .u64 (l2 n)) ∧ w'.cell? ⟨w.heap.size, 4, none⟩ = some (.int .u64 (l3 n)) ∧ w'.cell? ⟨w.heap.size + 1, 0, none⟩ = some (.bool c) ∧ w'.cell? ⟨w.heap.size + 1, 1, none⟩ = some (.int .u64 (l0 m)) ∧ w'.cell? ⟨w.heap.size + 1, 2, none⟩ = some (.int .u64 (l1 m)) ∧ w'.cell? ⟨w.heap.size + 1, 3, none⟩ = some (.int .u64 (l2 m)) ∧ w'.cell? ⟨w.heap.size + 1, 4, none⟩ = some (.int .u64 (l3 m))) (simp [go_sem, *])
   (first | (go_at_call 67; refine (mulDouble_x n m _ hn0 hn hm0 hm).mono ?_; rintro e w3 ⟨rfl, hm3⟩; have m3 : Mo w2 w3 := Mo.trans (by repeat (first | with_reducible exact Mo.refl _ | with_reducible apply Mo.drew | with_reducible apply Mo.alloc)) hm3; obtain ⟨⟨e0, e1, e2, e3, e4, e5⟩, _, es⟩ := Qa.mo m3; obtain ⟨⟨f0, f1, f2, f3, f4, f5⟩, _, fs⟩ := Qb.mo m3; have nw3a : ¬ w.heap.size = w3.heap.size := (by omega); have nw3b : ¬ w.heap.size + 1 = w3.heap.size := (by omega); (first | (with_reducible have pq := T81.mk1 hm3; obtain ⟨p1, pz⟩ := pq) | (with_reducible have pq := T81.mk2 hm3; obtain ⟨p1, pz⟩ := pq) | skip)))
  all_goals
   go_wp2
   go_meet
   case rel =>
    have zr := (Qr.mo m3).2.2
    refine ⟨_, by cases b <;> cases c <;> rfl, rfl, by omega, ?_, ?_, ?_, ?_, ?_⟩
    ·have MM1 := M.trans m3
     first | with_reducible exact Mo.setCells (by omega) _ _ _ MM1 | with_reducible exact Mo.setCells (by omega) _ _ _ (MM1.alloc _ _)
    ·have q := Qa.mo m3
     first | with_reducible exact q.other (by omega) _ | with_reducible exact (q.mo ((Mo.refl _).alloc _ _)).other (by omega) _
    ·have q := Qb.mo m3
     first | with_reducible exact q.other (by omega) _ | with_reducible exact (q.mo ((Mo.refl _).alloc _ _)).other (by omega) _
    ·have q := Qr.mo m3
     first | with_reducible exact q.other (by omega) _ | with_reducible exact (q.mo ((Mo.refl _).alloc _ _)).other (by omega) _
    ·first | with_reducible exact AtX.same _ p1 (by omega) | exact AtX.same _ (there_new _) (by simp)
 case rest =>
  clear ca0 ca1 ca2 ca3 ca4 ca5 fa sa sxa sya cb0 cb1 cb2 cb3 cb4 cb5 fb sb sxb syb cr0 cr1 cr2 cr3 cr4 cr5 fr sr sxr syr Qa Qb Qr M nw2a nw2b rst rn1 rc
  obtain ⟨k, rfl, rfl, hk, M, Qa, Qb, Qr, Qx⟩ := hcut
  obtain ⟨X, hX⟩ : ∃ X, X = n * m := ⟨_, rfl⟩
  rw [← hX] at Qx
  have HX : Hid _ := hX
  clear hX
  generalize hnb : (b != c) = nb at *
  have HN : Hid _ := hnb
  clear hnb
  have xl := ld81 wc k X Qx.1
  have xc := Qx.cells
  obtain ⟨x0, x1, x2, x3, x4, x5, x6, x7⟩ := xc
  have Oa := Qa
  obtain ⟨⟨ca0, ca1, ca2, ca3, ca4, ca5⟩, fa, sa⟩ := Oa
  have fa := fun o => fa o
  have sxa : w.heap.size < wc.heap.size + 1 := by omega
  have sya : w.heap.size < wc.heap.size + 1 + 1 := by omega
  have Ob := Qb
  obtain ⟨⟨cb0, cb1, cb2, cb3, cb4, cb5⟩, fb, sb⟩ := Ob
  have fb := fun o => fb o
  have sxb : w.heap.size + 1 < wc.heap.size + 1 := by omega
  have syb : w.heap.size + 1 < wc.heap.size + 1 + 1 := by omega
  have Or := Qr
  obtain ⟨⟨cr0, cr1, cr2, cr3, cr4, cr5⟩, fr, sr⟩ := Or
  have fr := fun o => fr o
  have sxr : w.heap.size + 1 + 1 < wc.heap.size + 1 := by omega
  have syr : w.heap.size + 1 + 1 < wc.heap.size + 1 + 1 := by omega
  have hf := HF.out
  rw [← HX.out] at z4
  rw [← HX.out] at hmul hfit
  go_upto_region 13 with fail
  go_region_with
   (first | (go_at_call 68; refine (hten _).mono ?_; rintro e w5 ⟨rfl, hm5⟩; have m5 : Mo wc w5 := Mo.trans (by repeat (first | with_reducible exact Mo.refl _ | with_reducible apply Mo.drew | with_reducible apply Mo.alloc)) hm5; obtain ⟨y0, y1, y2, y3, y4, y5, y6, y7⟩ := (Qx.mo m5).cells) | (go_at_call 67; refine (hmul _).mono ?_; rintro e w6 ⟨rfl, hm6⟩; have m6 : Mo w5 w6 := Mo.trans (by repeat (first | with_reducible exact Mo.refl _ | with_reducible apply Mo.drew | with_reducible apply Mo.alloc)) hm6) | (go_at_call 72; refine (hfit _).mono ?_; rintro e w7 ⟨rfl, hm7⟩; have m7 : Mo w6 w7 := Mo.trans (by repeat (first | with_reducible exact Mo.refl _ | with_reducible apply Mo.drew | with_reducible apply Mo.alloc)) hm7; have m8 := (m5.trans m6).trans m7; obtain ⟨⟨g0, g1, g2, g3, g4, g5⟩, gf, gz⟩ := Qr.mo m8; have gf := fun o => gf o))
  all_goals
   go_wp2
   have M := M.trans m8
   refine bodyPost_ret (v := .tuple #[dz (sv nb (X * T)) S, .int .i64 0]) (by simp [results, Try.results51, go_sem, *]) rfl ?_
   refine ⟨by rw [HN.out, ← HX.out, ← HT.out], ?_⟩
   repeat (first | with_reducible exact M | with_reducible exact Mo.refl _ | with_reducible apply Mo.drew | with_reducible apply Mo.drewN | with_reducible apply Mo.alloc | with_reducible refine Mo.setCell ?_ (by simp <;> omega) _)
set_option maxHeartbeats 8000000 in
theorem mulTo_up_full (b c : Bool) (n m s t S p : Int) (w : World) (hn0 : 0 ≤ n) (hn : n < MM) (hm0 : 0 ≤ m) (hm : m < MM) (h1 : ck b n s = 0) (h2 : ck c m t = 0) (hS : sc S = true) (hp1 : 1 ≤ p) (hp5 : p ≤ 5) (g : Nat) (hf : s + t - S = -(g : Int)) (hg : g ≤ 18) (hs : 0 ≤ s ∧ s ≤ 18) (ht : 0 ≤ t ∧ t ≤ 18) (hx : n * m < MM) (hr : MM ≤ n * m * 10 ^ g) :
  Calls Try.prog 51 #[dc b n s, dc c m t, .int .i64 S, .int .i64 p] w fun e w' => e = .returned (er 7) ∧ Mo w w' := by
 have bX := prod_bd hn0 hn hm0 hm
 have q4 := eq4
 have hst : IntKind.i64.wrap (s + t) = s + t := by rw [IntKind.wrap_i64]; omega
 have hff : IntKind.i64.wrap (-(g : Int)) = -(g : Int) := by rw [IntKind.wrap_i64]; omega
 have hgg : IntKind.i64.wrap (g : Int) = (g : Int) := by rw [IntKind.wrap_i64]; omega
 have hd : decide (-(g : Int) > 0) = false := decide_eq_false (by omega)
 have HF : Hid _ := hf
 have z4 : (l0 (n * m / MM) == 0 && (l1 (n * m / MM) == 0 && (l2 (n * m / MM) == 0 && l3 (n * m / MM) == 0))) = true := by
  rw [Int.ediv_eq_zero_of_lt bX.1 hx]; rfl
 have hg77 : g ≤ 77 := by omega
 have tb := ten_bd g hg77
 have hten : ∀ w, Calls Try.prog 68 #[.int .i64 (g : Int)] w fun e w' => e = .returned (nv (10 ^ g)) ∧ Mo w w' := fun w => dten_n g w hg77
 have hmul : ∀ w, Calls Try.prog 67 #[nv (n * m), nv (10 ^ g)] w fun e w' => e = .returned (dx (n * m * 10 ^ g)) ∧ Mo w w' := fun w => mulDouble_x (n * m) (10 ^ g) w bX.1 hx (by omega) tb.2
 have hfit : ∀ w, Calls Try.prog 72 #[.bool (b != c), dx (n * m * 10 ^ g), .int .i64 S] w fun e w' => e = .returned (er 7) ∧ Mo w w' := fun w => fit_full (b != c) (n * m * 10 ^ g) S w hr (prod_bd bX.1 hx (by omega) tb.2).2
 clear bX hf hr hx tb
 obtain ⟨T, hT⟩ : ∃ T : Int, T = 10 ^ g := ⟨_, rfl⟩
 rw [← hT] at hten hmul hfit
 have HT : Hid _ := hT
 clear hT
 have hsz := dwa_size
 have rst := st81
 have rn1 := there_new
 have rc := cell_sc
 go_enter Try.func51, Try.ntmps51
 go_wp2_with fail
 refine (both_ok b n s c m t _ hn0 hn hm0 hm h1 h2).mono ?_
 rintro e w1 ⟨rfl, hm1⟩
 have mz : Mo w w1 := Mo.trans (by repeat (first | with_reducible exact Mo.refl _ | with_reducible apply Mo.drew | with_reducible apply Mo.alloc)) hm1
 have M := mz
 have Qa : AtD w1 (w.heap.size) b n s := AtD.mo ⟨by simp [go_sem], fun o => by simp [go_sem], by simp <;> omega⟩ hm1
 have Qb : AtD w1 (w.heap.size + 1) c m t := AtD.mo ⟨by simp [go_sem], fun o => by simp [go_sem], by simp <;> omega⟩ hm1
 have Qr : AtD w1 (w.heap.size + 1 + 1) false 0 0 := AtD.mo ⟨by simp [go_sem, zl0, zl1, zl2, zl3], fun o => by simp [go_sem], by simp <;> omega⟩ hm1
 clear hm1 mz
 have Oa := Qa
 obtain ⟨⟨ca0, ca1, ca2, ca3, ca4, ca5⟩, fa, sa⟩ := Oa
 have fa := fun o => fa o
 have sxa : w.heap.size < w1.heap.size + 1 := by omega
 have sya : w.heap.size < w1.heap.size + 1 + 1 := by omega
 have Ob := Qb
 obtain ⟨⟨cb0, cb1, cb2, cb3, cb4, cb5⟩, fb, sb⟩ := Ob
 have fb := fun o => fb o
 have sxb : w.heap.size + 1 < w1.heap.size + 1 := by omega
 have syb : w.heap.size + 1 < w1.heap.size + 1 + 1 := by omega
 have Or := Qr
 obtain ⟨⟨cr0, cr1, cr2, cr3, cr4, cr5⟩, fr, sr⟩ := Or
 have fr := fun o => fr o
 have sxr : w.heap.size + 1 + 1 < w1.heap.size + 1 := by omega
 have syr : w.heap.size + 1 + 1 < w1.heap.size + 1 + 1 := by omega
 go_wp2_with fail
 refine (cr_ok S p _ hS hp1 hp5).mono ?_
 rintro e w2 ⟨rfl, hm2⟩
 have mz : Mo w1 w2 := Mo.trans (by repeat (first | with_reducible exact Mo.refl _ | with_reducible apply Mo.drew | with_reducible apply Mo.alloc)) hm2
 have zw1a := sa
 have zw1b := sb
 have zw1r := sr
 clear ca0 ca1 ca2 ca3 ca4 ca5 fa sa sxa sya cb0 cb1 cb2 cb3 cb4 cb5 fb sb sxb syb cr0 cr1 cr2 cr3 cr4 cr5 fr sr sxr syr
 have Qa := Qa.mo mz
 have Qb := Qb.mo mz
 have Qr := Qr.mo mz
 have M := M.trans mz
 clear hm2 mz
 have Oa := Qa
 obtain ⟨⟨ca0, ca1, ca2, ca3, ca4, ca5⟩, fa, sa⟩ := Oa
 have fa := fun o => fa o
 have sxa : w.heap.size < w2.heap.size + 1 := by omega
 have sya : w.heap.size < w2.heap.size + 1 + 1 := by omega
 have Ob := Qb
 obtain ⟨⟨cb0, cb1, cb2, cb3, cb4, cb5⟩, fb, sb⟩ := Ob
 have fb := fun o => fb o
 have sxb : w.heap.size + 1 < w2.heap.size + 1 := by omega
 have syb : w.heap.size + 1 < w2.heap.size + 1 + 1 := by omega
 have Or := Qr
 obtain ⟨⟨cr0, cr1, cr2, cr3, cr4, cr5⟩, fr, sr⟩ := Or
 have fr := fun o => fr o
 have sxr : w.heap.size + 1 + 1 < w2.heap.size + 1 := by omega
 have syr : w.heap.size + 1 + 1 < w2.heap.size + 1 + 1 := by omega
 go_upto_region 7 with fail
 have nw2a : ¬ w.heap.size = w2.heap.size := (by omega)
 have nw2b : ¬ w.heap.size + 1 = w2.heap.size := (by omega)
 go_cut [12, 13] from 29 to 38 (fun s12 s13 wx => ∃ k, s12 = .bool (b != c) ∧ s13 = .pointer (some ⟨k, 0, none⟩) ∧ w.heap.size + 1 + 1 < k ∧ Mo w wx ∧ AtD wx w.heap.size b n s ∧ AtD wx (w.heap.size + 1) c m t ∧ AtD wx (w.heap.size + 1 + 1) false 0 0 ∧ AtX wx k (n * m))
 case first =>
  go_region_held3 (fun w' => w'.cell? ⟨w.heap.size, 0, none⟩ = some (.bool b) ∧ w'.cell? ⟨w.heap.size, 1, none⟩ = some (.int .u64 (l0 n)) ∧ w'.cell? ⟨w.heap.size, 2, none⟩ = some (.int .u64 (l1 n)) ∧ w'.cell? ⟨w.heap.size, 3, none⟩ = some (.int .u64 (l2 n)) ∧ w'.cell? ⟨w.heap.size, 4, none⟩ = some (.int .u64 (l3 n)) ∧ w'.cell? ⟨w.heap.size + 1, 0, none⟩ = some (.bool c) ∧ w'.cell? ⟨w.heap.size + 1, 1, none⟩ = some (.int .u64 (l0 m)) ∧ w'.cell? ⟨w.heap.size + 1, 2, none⟩ = some (.int .u64 (l1 m)) ∧ w'.cell? ⟨w.heap.size + 1, 3, none⟩ = some (.int .u64 (l2 m)) ∧ w'.cell? ⟨w.heap.size + 1, 4, none⟩ = some (.int .u64 (l3 m))) (simp [go_sem, *])
   (first | (go_at_call 67; refine (mulDouble_x n m _ hn0 hn hm0 hm).mono ?_; rintro e w3 ⟨rfl, hm3⟩; have m3 : Mo w2 w3 := Mo.trans (by repeat (first | with_reducible exact Mo.refl _ | with_reducible apply Mo.drew | with_reducible apply Mo.alloc)) hm3; obtain ⟨⟨e0, e1, e2, e3, e4, e5⟩, _, es⟩ := Qa.mo m3; obtain ⟨⟨f0, f1, f2, f3, f4, f5⟩, _, fs⟩ := Qb.mo m3; have nw3a : ¬ w.heap.size = w3.heap.size := (by omega); have nw3b : ¬ w.heap.size + 1 = w3.heap.size := (by omega); (first | (with_reducible have pq := T81.mk1 hm3; obtain ⟨p1, pz⟩ := pq) | (with_reducible have pq := T81.mk2 hm3; obtain ⟨p1, pz⟩ := pq) | skip)))
  all_goals
   go_wp2
   go_meet
   case rel =>
    have zr := (Qr.mo m3).2.2
    refine ⟨_, by cases b <;> cases c <;> rfl, rfl, by omega, ?_, ?_, ?_, ?_, ?_⟩
    ·have MM1 := M.trans m3
     first | with_reducible exact Mo.setCells (by omega) _ _ _ MM1 | with_reducible exact Mo.setCells (by omega) _ _ _ (MM1.alloc _ _)
    ·have q := Qa.mo m3
     first | with_reducible exact q.other (by omega) _ | with_reducible exact (q.mo ((Mo.refl _).alloc _ _)).other (by omega) _
    ·have q := Qb.mo m3
     first | with_reducible exact q.other (by omega) _ | with_reducible exact (q.mo ((Mo.refl _).alloc _ _)).other (by omega) _
    ·have q := Qr.mo m3
     first | with_reducible exact q.other (by omega) _ | with_reducible exact (q.mo ((Mo.refl _).alloc _ _)).other (by omega) _
    ·first | with_reducible exact AtX.same _ p1 (by omega) | exact AtX.same _ (there_new _) (by simp)
 case rest =>
  clear ca0 ca1 ca2 ca3 ca4 ca5 fa sa sxa sya cb0 cb1 cb2 cb3 cb4 cb5 fb sb sxb syb cr0 cr1 cr2 cr3 cr4 cr5 fr sr sxr syr Qa Qb Qr M nw2a nw2b rst rn1 rc
  obtain ⟨k, rfl, rfl, hk, M, Qa, Qb, Qr, Qx⟩ := hcut
  obtain ⟨X, hX⟩ : ∃ X, X = n * m := ⟨_, rfl⟩
  rw [← hX] at Qx
  have HX : Hid _ := hX
  clear hX
  generalize hnb : (b != c) = nb at *
  have HN : Hid _ := hnb
  clear hnb
  have xl := ld81 wc k X Qx.1
  have xc := Qx.cells
  obtain ⟨x0, x1, x2, x3, x4, x5, x6, x7⟩ := xc
  have Oa := Qa
  obtain ⟨⟨ca0, ca1, ca2, ca3, ca4, ca5⟩, fa, sa⟩ := Oa
  have fa := fun o => fa o
  have sxa : w.heap.size < wc.heap.size + 1 := by omega
  have sya : w.heap.size < wc.heap.size + 1 + 1 := by omega
  have Ob := Qb
  obtain ⟨⟨cb0, cb1, cb2, cb3, cb4, cb5⟩, fb, sb⟩ := Ob
  have fb := fun o => fb o
  have sxb : w.heap.size + 1 < wc.heap.size + 1 := by omega
  have syb : w.heap.size + 1 < wc.heap.size + 1 + 1 := by omega
  have Or := Qr
  obtain ⟨⟨cr0, cr1, cr2, cr3, cr4, cr5⟩, fr, sr⟩ := Or
  have fr := fun o => fr o
  have sxr : w.heap.size + 1 + 1 < wc.heap.size + 1 := by omega
  have syr : w.heap.size + 1 + 1 < wc.heap.size + 1 + 1 := by omega
  have hf := HF.out
  rw [← HX.out] at z4
  rw [← HX.out] at hmul hfit
  go_upto_region 13 with fail
  go_region_with
   (first | (go_at_call 68; refine (hten _).mono ?_; rintro e w5 ⟨rfl, hm5⟩; have m5 : Mo wc w5 := Mo.trans (by repeat (first | with_reducible exact Mo.refl _ | with_reducible apply Mo.drew | with_reducible apply Mo.alloc)) hm5; obtain ⟨y0, y1, y2, y3, y4, y5, y6, y7⟩ := (Qx.mo m5).cells) | (go_at_call 67; refine (hmul _).mono ?_; rintro e w6 ⟨rfl, hm6⟩; have m6 : Mo w5 w6 := Mo.trans (by repeat (first | with_reducible exact Mo.refl _ | with_reducible apply Mo.drew | with_reducible apply Mo.alloc)) hm6) | (go_at_call 72; refine (hfit _).mono ?_; rintro e w7 ⟨rfl, hm7⟩; have m7 : Mo w6 w7 := Mo.trans (by repeat (first | with_reducible exact Mo.refl _ | with_reducible apply Mo.drew | with_reducible apply Mo.alloc)) hm7; have m8 := (m5.trans m6).trans m7; obtain ⟨⟨g0, g1, g2, g3, g4, g5⟩, gf, gz⟩ := Qr.mo m8; have gf := fun o => gf o))
  all_goals
   go_wp2
   have M := M.trans m8
   refine bodyPost_ret (v := er 7) (by simp [results, Try.results51, go_sem, *]) rfl ?_
   refine ⟨rfl, ?_⟩
   repeat (first | with_reducible exact M | with_reducible exact Mo.refl _ | with_reducible apply Mo.drew | with_reducible apply Mo.drewN | with_reducible apply Mo.alloc | with_reducible refine Mo.setCell ?_ (by simp <;> omega) _)
end Go.Proofs.Ythehmmhnacomkaa

namespace Go.Proofs.Ythehmmhnacomkaa
open Go.RowKit
def pw (k : Int) : Int := 10 ^ k.toNat
theorem pw_nat (k : Nat) : pw (k : Int) = 10 ^ k := rfl
def addV (u s v t : Int) : Int := u * pw (max s t - s) + v * pw (max s t - t)
theorem ab_c (v : Int) : (v < 0 ∧ ab v = -v) ∨ (0 ≤ v ∧ ab v = v) := by
 unfold ab; by_cases h : v < 0
 ·exact Or.inl ⟨h, if_pos h⟩
 ·exact Or.inr ⟨by omega, if_neg h⟩
theorem ab_mul {u x : Int} (hx : 0 < x) : ab u * x = ab (u * x) := by
 unfold ab
 by_cases h : u < 0
 ·rw [if_pos h, if_pos (Int.mul_neg_of_neg_of_pos h hx), Int.neg_mul]
 ·rw [if_neg h, if_neg (by have := Int.mul_nonneg (Int.not_lt.1 h) (Int.le_of_lt hx); omega)]
theorem neg_mul_iff {u x : Int} (hx : 0 < x) : decide (u * x < 0) = decide (u < 0) := by
 by_cases h : u < 0
 ·rw [decide_eq_true h, decide_eq_true (Int.mul_neg_of_neg_of_pos h hx)]
 ·have := Int.mul_nonneg (Int.not_lt.1 h) (Int.le_of_lt hx)
  rw [decide_eq_false h, decide_eq_false (by omega)]
theorem lifted_sm {n : Int} {i : Nat} (h0 : 0 ≤ n) (h : n < MM) (hi : i ≤ 18) : n * 10 ^ i < 1000000000000000000 * MM := by
 have h1 : (10 : Nat) ^ i ≤ 10 ^ 18 := Nat.pow_le_pow_right (by decide) hi
 have h3 : ((10 ^ i : Nat) : Int) = (10 : Int) ^ i := by rw [Int.natCast_pow]; rfl
 have h4 : (10 : Int) ^ i ≤ 1000000000000000000 := by rw [← h3]; omega
 have a : n * 10 ^ i ≤ n * 1000000000000000000 := Int.mul_le_mul_of_nonneg_left h4 h0
 unfold MM at *
 omega
theorem one6 (b : Bool) (n s : Int) : [Value.bool b, .int .u64 (l0 n), .int .u64 (l1 n), .int .u64 (l2 n), .int .u64 (l3 n), .int .i64 s].all (·.oneCell') = true := rfl
theorem add_z (u s v t : Int) (w : World) (hu : ab u < MM) (hv : ab v < MM) (hs : sc s = true) (ht : sc t = true) :
  Calls Try.prog 52 #[dz u s, dz v t] w fun e w' => e = .returned (fz (addV u s v t) (max s t)) ∧ Mo w w' := by
 obtain ⟨s0, s1⟩ := sc_iff.1 hs
 obtain ⟨t0, t1⟩ := sc_iff.1 ht
 obtain ⟨S, hS⟩ : ∃ S, max s t = S := ⟨_, rfl⟩
 obtain ⟨i, hi⟩ : ∃ i : Nat, S - s = (i : Int) := ⟨(S - s).toNat, by omega⟩
 obtain ⟨j, hj⟩ : ∃ j : Nat, S - t = (j : Int) := ⟨(S - t).toNat, by omega⟩
 unfold addV
 rw [hS, hi, hj, pw_nat, pw_nat]
 have pi : (0 : Int) < 10 ^ i := Int.pow_pos (by decide)
 have pj : (0 : Int) < 10 ^ j := Int.pow_pos (by decide)
 have bX := lifted_bd (ab_nn u) hu (i := i) (by omega)
 have bY := lifted_bd (ab_nn v) hv (i := j) (by omega)
 have bX2 := lifted_sm (ab_nn u) hu (i := i) (by omega)
 have bY2 := lifted_sm (ab_nn v) hv (i := j) (by omega)
 have eX := ab_mul (u := u) pi
 have eY := ab_mul (u := v) pj
 have nX := neg_mul_iff (u := u) pi
 have nY := neg_mul_iff (u := v) pj
 have key : ∀ (b : Bool) (X : Int), X = ab (u * 10 ^ i + v * 10 ^ j) → X < MM * MM → (X ≠ 0 → b = decide (u * 10 ^ i + v * 10 ^ j < 0)) → ∀ w, Calls Try.prog 72 #[.bool b, dx X, .int .i64 S] w fun e w' => e = .returned (fz (u * 10 ^ i + v * 10 ^ j) S) ∧ Mo w w' :=
  fun b X h1 h2 h3 w => fit_x b X S _ w h1 h2 h3
 obtain ⟨V, hV⟩ : ∃ V, u * 10 ^ i + v * 10 ^ j = V := ⟨_, rfl⟩
 rw [hV] at key ⊢
 obtain ⟨A, hA⟩ : ∃ A, u * 10 ^ i = A := ⟨_, rfl⟩
 obtain ⟨B, hB⟩ : ∃ B, v * 10 ^ j = B := ⟨_, rfl⟩
 rw [hA, hB] at hV
 rw [hA] at eX nX
 rw [hB] at eY nY
 have go : ∀ (d0 d1 d2 d3 d4 d5 : Value) (e : Int), fz V S = .tuple #[.agg #[d0, d1, d2, d3, d4, d5], .int .i64 e] → [d0, d1, d2, d3, d4, d5].all (·.oneCell') = true →
   Calls Try.prog 52 #[dz u s, dz v t] w fun e w' => e = .returned (fz V S) ∧ Mo w w' := by
  intro d0 d1 d2 d3 d4 d5 e he hd
  rw [he] at key ⊢
  have cA := ab_c A
  have cB := ab_c B
  have cV := ab_c V
  by_cases hb : (decide (u < 0) == decide (v < 0)) = true
  ·have bS : ab u * 10 ^ i + ab v * 10 ^ j < MM * MM := by unfold MM at *; omega
   have hab : (A < 0) ↔ (B < 0) := by
    have : decide (A < 0) = decide (B < 0) := by rw [nX, nY]; simpa using hb
    simpa using this
   refine add_same _ _ _ _ s t S i j d0 d1 d2 d3 d4 d5 e w (ab_nn u) hu (ab_nn v) hv (ck_dz hs) (ck_dz ht) hS hi hj (by omega) (by omega) hb hd (key _ _ ?_ bS ?_)
   ·rw [eX, eY]; omega
   ·intro hne
    rw [eX, eY] at hne
    rw [← nX, decide_eq_decide]; omega
  ·have hb : (decide (u < 0) == decide (v < 0)) = false := by simpa using hb
   have hab : ¬ ((A < 0) ↔ (B < 0)) := by
    intro h
    have : decide (A < 0) = decide (B < 0) := decide_eq_decide.2 h
    rw [nX, nY] at this
    rw [this] at hb; simp at hb
   by_cases hlt : ab A < ab B
   ·have bS : ab v * 10 ^ j - ab u * 10 ^ i < MM * MM := by omega
    have hc : decide (cm (ab u * 10 ^ i) (ab v * 10 ^ j) < 0) = true := by rw [eX, eY]; unfold cm; rw [if_pos hlt]; decide
    refine add_lt _ _ _ _ s t S i j d0 d1 d2 d3 d4 d5 e w (ab_nn u) hu (ab_nn v) hv (ck_dz hs) (ck_dz ht) hS hi hj (by omega) (by omega) hb hc hd (key _ _ ?_ bS ?_)
    ·rw [eX, eY]; omega
    ·intro _
     rw [← nY, decide_eq_decide]; omega
   ·have bS : ab u * 10 ^ i - ab v * 10 ^ j < MM * MM := by omega
    have hc : decide (cm (ab u * 10 ^ i) (ab v * 10 ^ j) < 0) = false := by
     rw [eX, eY]; unfold cm; rw [if_neg hlt]; split <;> decide
    refine add_ge _ _ _ _ s t S i j d0 d1 d2 d3 d4 d5 e w (ab_nn u) hu (ab_nn v) hv (ck_dz hs) (ck_dz ht) hS hi hj (by omega) (by omega) hb hc hd (key _ _ ?_ bS ?_)
    ·rw [eX, eY]; omega
    ·intro hne
     rw [eX, eY] at hne
     rw [← nX, decide_eq_decide]; omega
 by_cases hr : ab V < MM
 ·exact go _ _ _ _ _ _ _ (by unfold fz; rw [if_pos hr]) (one6 _ _ _)
 ·exact go _ _ _ _ _ _ _ (by unfold fz; rw [if_neg hr]) rfl
end Go.Proofs.Ythehmmhnacomkaa

namespace Go.Proofs.Ythehmmhnacomkaa
open Go.RowKit
theorem dz_neg (v t : Int) : dc (!decide (v < 0) && !decide (ab v = 0)) (ab v) t = dz (-v) t := by
 have c := ab_c v
 have d := ab_c (-v)
 have e1 : ab v = ab (-v) := by omega
 have e2 : (!decide (v < 0) && !decide (ab v = 0)) = decide (-v < 0) := by
  rw [Bool.eq_iff_iff]; simp; omega
 rw [e2, e1]
theorem ab_neg (v : Int) : ab (-v) = ab v := by have c := ab_c v; have d := ab_c (-v); omega
theorem fz_yes {V S : Int} (h : ab V < MM) : fz V S = .tuple #[dz V S, .int .i64 0] := by unfold fz; rw [if_pos h]
theorem fz_no {V S : Int} (h : ¬ ab V < MM) : fz V S = er 7 := by unfold fz; rw [if_neg h]
theorem sub_z (u s v t : Int) (w : World) (hu : ab u < MM) (hv : ab v < MM) (hs : sc s = true) (ht : sc t = true) :
  Calls Try.prog 50 #[dz u s, dz v t] w fun e w' => e = .returned (fz (addV u s (-v) t) (max s t)) ∧ Mo w w' := by
 have ha := fun w => add_z u s (-v) t w hu (by rw [ab_neg]; exact hv) hs ht
 rw [← dz_neg] at ha
 by_cases h : ab (addV u s (-v) t) < MM
 ·rw [fz_yes h] at ha ⊢
  exact dsub_ok _ _ _ _ s t w (ab_nn u) hu (ab_nn v) hv (ck_dz ht) _ _ ha
 ·rw [fz_no h] at ha ⊢
  exact dsub_er _ _ _ _ s t w (ab_nn u) hu (ab_nn v) hv (ck_dz ht) _ ha
theorem cmp_z (u s v t : Int) (w : World) (hu : ab u < MM) (hv : ab v < MM) (hs : sc s = true) (ht : sc t = true) :
  Calls Try.prog 27 #[dz u s, dz v t] w fun e w' => e = .returned (.int .i64 (cm (u * pw (max s t - s)) (v * pw (max s t - t)))) ∧ Mo w w' := by
 obtain ⟨s0, s1⟩ := sc_iff.1 hs
 obtain ⟨t0, t1⟩ := sc_iff.1 ht
 obtain ⟨S, hS⟩ : ∃ S, max s t = S := ⟨_, rfl⟩
 obtain ⟨i, hi⟩ : ∃ i : Nat, S - s = (i : Int) := ⟨(S - s).toNat, by omega⟩
 obtain ⟨j, hj⟩ : ∃ j : Nat, S - t = (j : Int) := ⟨(S - t).toNat, by omega⟩
 rw [hS, hi, hj, pw_nat, pw_nat]
 have pi : (0 : Int) < 10 ^ i := Int.pow_pos (by decide)
 have pj : (0 : Int) < 10 ^ j := Int.pow_pos (by decide)
 have eX := ab_mul (u := u) pi
 have eY := ab_mul (u := v) pj
 have nX := neg_mul_iff (u := u) pi
 have nY := neg_mul_iff (u := v) pj
 have zX : u * 10 ^ i = 0 ↔ ab u = 0 := by
  have c := ab_c u
  constructor
  ·intro h; rcases Int.mul_eq_zero.1 h with h | h <;> omega
  ·intro h; rw [show u = 0 by omega]; simp
 have zY : v * 10 ^ j = 0 ↔ ab v = 0 := by
  have c := ab_c v
  constructor
  ·intro h; rcases Int.mul_eq_zero.1 h with h | h <;> omega
  ·intro h; rw [show v = 0 by omega]; simp
 have sX : sg (decide (u < 0)) (ab u) = if u * 10 ^ i = 0 then 0 else if u * 10 ^ i < 0 then -1 else 1 := by
  unfold sg; rw [← nX]; by_cases h : u * 10 ^ i = 0 <;> simp [h, zX.1] <;> simp [zX.symm, h]
 have sY : sg (decide (v < 0)) (ab v) = if v * 10 ^ j = 0 then 0 else if v * 10 ^ j < 0 then -1 else 1 := by
  unfold sg; rw [← nY]; by_cases h : v * 10 ^ j = 0 <;> simp [h, zY.1] <;> simp [zY.symm, h]
 generalize hA : u * 10 ^ i = A at *
 generalize hB : v * 10 ^ j = B at *
 have cA := ab_c A
 have cB := ab_c B
 by_cases ho : cm (sg (decide (u < 0)) (ab u)) (sg (decide (v < 0)) (ab v)) = 0
 ·have hsg : sg (decide (u < 0)) (ab u) = sg (decide (v < 0)) (ab v) := by unfold cm at ho; split at ho <;> (try split at ho) <;> omega
  rw [sX, sY] at hsg
  have hneg : (A < 0 ↔ B < 0) := by split at hsg <;> split at hsg <;> (try split at hsg) <;> (try split at hsg) <;> omega
  by_cases hb : u < 0
  ·have hA0 : A < 0 := by have := nX; simp [hb] at this; exact this
   have := dcmp_neg (decide (u < 0)) (decide (v < 0)) (ab u) (ab v) s t w (ab_nn u) hu (ab_nn v) hv (ck_dz hs) (ck_dz ht) S i j hS hi hj (by omega) (by omega) (decide_eq_true hb) ho
   rw [eX, eY] at this
   have e : -(cm (ab A) (ab B)) = cm A B := by unfold cm; split <;> (try split) <;> (try split) <;> (try split) <;> omega
   rw [e] at this
   exact this
  ·have hA0 : ¬ A < 0 := by have := nX; simp [hb] at this; omega
   have := dcmp_pos (decide (u < 0)) (decide (v < 0)) (ab u) (ab v) s t w (ab_nn u) hu (ab_nn v) hv (ck_dz hs) (ck_dz ht) S i j hS hi hj (by omega) (by omega) (decide_eq_false hb) ho
   rw [eX, eY] at this
   have e : cm (ab A) (ab B) = cm A B := by rw [show ab A = A by omega, show ab B = B by omega]
   rw [e] at this
   exact this
 ·have := dcmp_ne (decide (u < 0)) (decide (v < 0)) (ab u) (ab v) s t w (ab_nn u) hu (ab_nn v) hv (ck_dz hs) (ck_dz ht) ho
  have e : cm (sg (decide (u < 0)) (ab u)) (sg (decide (v < 0)) (ab v)) = cm A B := by
   rw [sX, sY] at ho ⊢
   unfold cm at *
   by_cases a0 : A = 0 <;> by_cases b0 : B = 0 <;> by_cases a1 : A < 0 <;> by_cases b1 : B < 0 <;> simp [a0, b0, a1, b1] at ho ⊢ <;> (try split) <;> (try split) <;> omega
  rw [e] at this
  exact this
end Go.Proofs.Ythehmmhnacomkaa

namespace Go.Proofs.Ythehmmhnacomkaa
open Go.RowKit
theorem guard_run {op : BinOp} {ty : TypeId} {a b : Array Value} {w : World} (x y : Operand) (hg : Try.prog.eqGuardType Try.prog.depth ty = false) : (eqGuard op ty x y (.agg a) (.agg b)).run Try.prog w = .ok () w := by
 unfold eqGuard
 cases op <;> simp [hg]
theorem eqa_run {ty : TypeId} {a b : Array Value} {r : Bool} {w : World} (hg : Try.prog.eqGuardType Try.prog.depth ty = false) (q : (Op.equalIn 10000 ty (.agg a) (.agg b)).run Try.prog w = .ok r w) (x y : Operand) :
  (do eqGuard .eql ty x y (.agg a) (.agg b); binOp .eql ty (.agg a) (.agg b)).run Try.prog w = .ok (.bool r) w := by
 have e : binOp .eql ty (.agg a) (.agg b) = (do pure (.bool (← Op.equalIn 10000 ty (.agg a) (.agg b)))) := rfl
 rw [Sem.run_bind, guard_run x y hg, e, Result.andThen_ok, Sem.run_bind, q]; rfl
end Go.Proofs.Ythehmmhnacomkaa

namespace Go.Proofs.Ythehmmhnacomkaa
open Go.RowKit
theorem pow_lt (k : Nat) (h : k ≤ 77) : (0 : Int) < 10 ^ k ∧ (10 : Int) ^ k < MM := by
 refine ⟨Int.pow_pos (by decide), ?_⟩
 have h1 : (10 : Nat) ^ k ≤ 10 ^ 77 := Nat.pow_le_pow_right (by decide) h
 have h2 : (10 : Nat) ^ 77 < 115792089237316195423570985008687907853269984665640564039457584007913129639936 := by decide
 have h3 : ((10 ^ k : Nat) : Int) = (10 : Int) ^ k := by rw [Int.natCast_pow]; rfl
 rw [← h3]
 unfold MM
 omega
set_option maxHeartbeats 4000000 in
theorem rten_yes (n : Nat) (w : World) (h7 : n ≤ 77) :
  Calls Try.prog 61 #[.int .i64 n] w fun e w' => e = .returned (.tuple #[nv (10 ^ n), .bool true]) ∧ Mo w w' := by
 have hn : ¬ ((n : Int) < 0) := by omega
 have hn7 : ¬ (77 < (n : Int)) := by omega
 go_enter Try.func61, Try.ntmps61
 go_wp2_with fail
 refine (from34_any 1 _ ⟨by decide, by decide⟩).mono ?_
 rintro e w1 ⟨rfl, hm⟩
 have hz := hm.size
 simp only [World.size_alloc] at hz
 have hA : At4 w1 w.heap.size 0 0 0 0 := At4.mo (by simp [At4, go_sem]) hm (by simp)
 have hF : Fz w1 w.heap.size := Fz.mo (fun o => by simp [go_sem]) hm
 have hM : Mo w w1 := ((Mo.refl _).alloc _ _).trans hm
 have hS : TT w (w1.alloc (.cells #[.int .u64 (l0 1), .int .u64 (l1 1), .int .u64 (l2 1), .int .u64 (l3 1)] 31)) w1.heap.size 1 := by
  have z : w.heap.size < w1.heap.size := by omega
  exact ⟨hM.alloc _ _, z, by simp, hA.mo ((Mo.refl _).alloc _ _) z, hF.mo ((Mo.refl _).alloc _ _), by simp [At4, go_sem], fun o => by simp [go_sem]⟩
 have HS : Hid _ := hS
 clear hS hA hF
 go_wp2
 go_loopw [5] (fun i wr => ∃ k : Nat, k ≤ n ∧ i = .int .i64 k ∧ TT w wr w1.heap.size (10 ^ k)) (fun i _ => n - (intOf i).toNat)
 case atStart => exact ⟨0, Nat.zero_le _, rfl, HS.out⟩
 case round =>
  obtain ⟨k, hk, rfl, ht⟩ := hrel
  by_cases hlt : k < n
  ·have pk := pow_lt k (by omega)
   have hstep : Hid (10 ^ k * 10 = (10 : Int) ^ (k + 1)) := (Int.pow_succ 10 k).symm
   obtain ⟨P, hP⟩ : ∃ P : Int, P = 10 ^ k := ⟨_, rfl⟩
   rw [← hP] at ht pk hstep
   have HP : Hid _ := hP
   clear hP
   have dk : decide ((k : Int) < (n : Int)) = true := decide_eq_true (by omega)
   go_upto_region 7 with fail
   have ht0 := ht
   obtain ⟨g1, g2, g3, ⟨c0, c1, c2, c3⟩, g5, ⟨b0, b1, b2, b3⟩, g7⟩ := ht0
   clear g5 g7
   go_region_with
    (first | (go_at_call 64; refine (from34_any 10 _ ⟨by decide, by decide⟩).mono ?_; rintro e w5 ⟨rfl, hm5⟩; have m5 : Mo wr w5 := Mo.trans (by repeat (first | with_reducible exact Mo.refl _ | with_reducible apply Mo.drew | with_reducible apply Mo.alloc)) hm5; obtain ⟨_, _, _, _, _, ⟨x0, x1, x2, x3⟩, _⟩ := ht.mo m5) | (go_at_call 62; refine (rmul_n P 10 _ (by omega) pk.2 (by decide) (by decide)).mono ?_; rintro e w6 ⟨rfl, hm6⟩; have m6 : Mo w5 w6 := Mo.trans (by repeat (first | with_reducible exact Mo.refl _ | with_reducible apply Mo.drew | with_reducible apply Mo.alloc)) hm6; have m7 := m5.trans m6; obtain ⟨_, _, zs, _, _, ⟨z0, z1, z2, z3⟩, zf⟩ := ht.mo m7; have zf := fun o => zf o))
   all_goals
    go_wp2
    go_roundw
    case rel =>
     refine ⟨k + 1, by omega, by go_num, ?_⟩
     rw [← hstep.out]
     exact (ht.mo m7).put
    case measure => simp [intOf]; omega
  ·have hkn : k = n := by omega
   subst hkn
   obtain ⟨g1, g2, g3, ⟨c0, c1, c2, c3⟩, g5, ⟨b0, b1, b2, b3⟩, g7⟩ := ht
   have g5 := fun o => g5 o
   go_wp2
   refine bodyPost_ret (v := .tuple #[nv (10 ^ k), .bool true]) (by simp [results, Try.results61, go_sem, c0, c1, c2, c3]) rfl ?_
   refine ⟨rfl, ?_⟩
   exact (((g1.setCell (Nat.le_refl _) _).setCell (Nat.le_refl _) _).setCell (Nat.le_refl _) _).setCell (Nat.le_refl _) _
end Go.Proofs.Ythehmmhnacomkaa


/-
  A part of the proof.
-/
import Derived.Test.YthehmmhnacomkaaKa12
import Derived.Test.YthehmmhnacomkaaKa10
import Derived.Test.YthehmmhnacomkaaKa9
import Derived.Test.YthehmmhnacomkaaKa8
import Derived.Test.YthehmmhnacomkaaKa5
import Derived.Test.YthehmmhnacomkaaKa3
import Derived.Test.YthehmmhnacomkaaKa1
import Derived.Test.YthehmmhnacomkaaProg
import Derived.WalkKit
import Derived.WalkSpells
import Derived.Handy
import Derived.BigQuiet
import Derived.Deep.RegionHeld3
import Derived.Test.YthehmmhnacomkaaKa4
import Derived.Shelf.Small.Bits
import Derived.Shelf.Strconv.Itoa0
import Derived.Shelf.Bits.Mul64
import Derived.Deep.CutBlock
import Derived.Deep.CutRange
import Derived.Test.YthehmmhnacomkaaKa7
import Derived.Test.YthehmmhnacomkaaKa6
import Derived.ChangeKeysEq
import Derived.ScopeJumps
import Derived.WalkMore
import Derived.Laws.StructEq
import Derived.Deep.MidRow
namespace Go.Proofs.Ythehmmhnacomkaa
open Go.RowKit
theorem prod_bd {n m : Int} (hn0 : 0 ≤ n) (hn : n < MM) (hm0 : 0 ≤ m) (hm : m < MM) : 0 ≤ n * m ∧ n * m < MM * MM := by
 refine ⟨Int.mul_nonneg hn0 hm0, ?_⟩
 have a : n * m ≤ n * MM := Int.mul_le_mul_of_nonneg_left (by omega) hn0
 have b : n * MM < MM * MM := Int.mul_lt_mul_of_pos_right hn (by decide)
 omega
theorem T81.mk2 {w w' : World} (m : Mo (w.alloc (.cells #[.int .u64 0, .int .u64 0, .int .u64 0, .int .u64 0, .int .u64 0, .int .u64 0, .int .u64 0, .int .u64 0] 74)) w') : w'.there w.heap.size 0 8 ∧ w.heap.size < w'.heap.size :=
 ⟨m.there (there_new w) (by simp), by have := m.size; simp at this; omega⟩
theorem T81.mk1 {w w' : World} (m : Mo ((w.alloc (.cells #[.int .u64 0, .int .u64 0, .int .u64 0, .int .u64 0, .int .u64 0, .int .u64 0, .int .u64 0, .int .u64 0] 74)).drew) w') : w'.there w.heap.size 0 8 ∧ w.heap.size < w'.heap.size := T81.mk2 ((Mo.refl _).drew.trans m)
theorem cell_sc (w : World) (k j o : Nat) (l : List Value) (h : ¬ j = k) : (w.setCells k 0 l).cell? ⟨j, o, none⟩ = w.cell? ⟨j, o, none⟩ := World.cell?_setCells_out k l 0 w _ (fun hb _ => absurd hb h)
set_option maxHeartbeats 8000000 in
theorem mulTo_dn_room (b c : Bool) (n m s t S p : Int) (w : World) (hn0 : 0 ≤ n) (hn : n < MM) (hm0 : 0 ≤ m) (hm : m < MM) (h1 : ck b n s = 0) (h2 : ck c m t = 0) (hS : sc S = true) (hp1 : 1 ≤ p) (hp5 : p ≤ 5) (f : Nat) (hf : s + t - S = (f : Int)) (hf0 : 0 < f) (hf36 : f ≤ 36) (hs : 0 ≤ s ∧ s ≤ 18) (ht : 0 ≤ t ∧ t ≤ 18) (hr : ro (b != c) (n * m) f p < MM) :
  Calls Try.prog 51 #[dc b n s, dc c m t, .int .i64 S, .int .i64 p] w fun e w' => e = .returned (.tuple #[dz (sv (b != c) (ro (b != c) (n * m) f p)) S, .int .i64 0]) ∧ Mo w w' := by
 have bX := prod_bd hn0 hn hm0 hm
 have hsh : ∀ w, Calls Try.prog 71 #[.bool (b != c), dx (n * m), .int .i64 (f : Int), .int .i64 S, .int .i64 p] w fun e w' => e = .returned (.tuple #[dz (sv (b != c) (ro (b != c) (n * m) f p)) S, .int .i64 0]) ∧ Mo w w' := fun w => shorten_room (b != c) (n * m) S p f w bX.1 bX.2 hf36 hp1 hp5 hr
 have hst : IntKind.i64.wrap (s + t) = s + t := by rw [IntKind.wrap_i64]; omega
 have hff : IntKind.i64.wrap (f : Int) = (f : Int) := by rw [IntKind.wrap_i64]; omega
 have hd : decide ((f : Int) > 0) = true := decide_eq_true (by omega)
 have HF : Hid _ := hf
 have HR : Hid _ := hr
 clear bX hf hr
 have hsz := dwa_size
 have rst := st81
 have rn1 := there_new
 have rc := cell_sc
 go_enter Try.func51, Try.ntmps51
 go_wp2_with fail
 refine (both_ok b n s c m t _ hn0 hn hm0 hm h1 h2).mono ?_
 rintro e w1 ⟨rfl, hm1⟩
 have mz : Mo w w1 := Mo.trans (by repeat (first | with_reducible exact Mo.refl _ | with_reducible apply Mo.drew | with_reducible apply Mo.alloc)) hm1
 have M := mz
 have Qa : AtD w1 (w.heap.size) b n s := AtD.mo ⟨by simp [go_sem], fun o => by simp [go_sem], by simp <;> omega⟩ hm1
 have Qb : AtD w1 (w.heap.size + 1) c m t := AtD.mo ⟨by simp [go_sem], fun o => by simp [go_sem], by simp <;> omega⟩ hm1
 have Qr : AtD w1 (w.heap.size + 1 + 1) false 0 0 := AtD.mo ⟨by simp [go_sem, zl0, zl1, zl2, zl3], fun o => by simp [go_sem], by simp <;> omega⟩ hm1
 clear hm1 mz
 have Oa := Qa
 obtain ⟨⟨ca0, ca1, ca2, ca3, ca4, ca5⟩, fa, sa⟩ := Oa
 have fa := fun o => fa o
 have sxa : w.heap.size < w1.heap.size + 1 := by omega
 have sya : w.heap.size < w1.heap.size + 1 + 1 := by omega
 have Ob := Qb
 obtain ⟨⟨cb0, cb1, cb2, cb3, cb4, cb5⟩, fb, sb⟩ := Ob
 have fb := fun o => fb o
 have sxb : w.heap.size + 1 < w1.heap.size + 1 := by omega
 have syb : w.heap.size + 1 < w1.heap.size + 1 + 1 := by omega
 have Or := Qr
 obtain ⟨⟨cr0, cr1, cr2, cr3, cr4, cr5⟩, fr, sr⟩ := Or
 have fr := fun o => fr o
 have sxr : w.heap.size + 1 + 1 < w1.heap.size + 1 := by omega
 have syr : w.heap.size + 1 + 1 < w1.heap.size + 1 + 1 := by omega
 go_wp2_with fail
 refine (cr_ok S p _ hS hp1 hp5).mono ?_
 rintro e w2 ⟨rfl, hm2⟩
 have mz : Mo w1 w2 := Mo.trans (by repeat (first | with_reducible exact Mo.refl _ | with_reducible apply Mo.drew | with_reducible apply Mo.alloc)) hm2
 have zw1a := sa
 have zw1b := sb
 have zw1r := sr
 clear ca0 ca1 ca2 ca3 ca4 ca5 fa sa sxa sya cb0 cb1 cb2 cb3 cb4 cb5 fb sb sxb syb cr0 cr1 cr2 cr3 cr4 cr5 fr sr sxr syr
 have Qa := Qa.mo mz
 have Qb := Qb.mo mz
 have Qr := Qr.mo mz
 have M := M.trans mz
 clear hm2 mz
 have Oa := Qa
 obtain ⟨⟨ca0, ca1, ca2, ca3, ca4, ca5⟩, fa, sa⟩ := Oa
 have fa := fun o => fa o
 have sxa : w.heap.size < w2.heap.size + 1 := by omega
 have sya : w.heap.size < w2.heap.size + 1 + 1 := by omega
 have Ob := Qb
 obtain ⟨⟨cb0, cb1, cb2, cb3, cb4, cb5⟩, fb, sb⟩ := Ob
 have fb := fun o => fb o
 have sxb : w.heap.size + 1 < w2.heap.size + 1 := by omega
 have syb : w.heap.size + 1 < w2.heap.size + 1 + 1 := by omega
 have Or := Qr
 obtain ⟨⟨cr0, cr1, cr2, cr3, cr4, cr5⟩, fr, sr⟩ := Or
 have fr := fun o => fr o
 have sxr : w.heap.size + 1 + 1 < w2.heap.size + 1 := by omega
 have syr : w.heap.size + 1 + 1 < w2.heap.size + 1 + 1 := by omega
 go_upto_region 7 with fail
 have nw2a : ¬ w.heap.size = w2.heap.size := (by omega)
 have nw2b : ¬ w.heap.size + 1 = w2.heap.size := (by omega)
 go_cut [12, 13] from 29 to 38 (fun s12 s13 wx => ∃ k, s12 = .bool (b != c) ∧ s13 = .pointer (some ⟨k, 0, none⟩) ∧ w.heap.size + 1 + 1 < k ∧ Mo w wx ∧ AtD wx w.heap.size b n s ∧ AtD wx (w.heap.size + 1) c m t ∧ AtD wx (w.heap.size + 1 + 1) false 0 0 ∧ AtX wx k (n * m))
 case first =>
  go_region_held3 (fun w' => w'.cell? ⟨w.heap.size, 0, none⟩ = some (.bool b) ∧ w'.cell? ⟨w.heap.size, 1, none⟩ = some (.int .u64 (l0 n)) ∧ w'.cell? ⟨w.heap.size, 2, none⟩ = some (.int .u64 (l1 n)) ∧ w'.cell? ⟨w.heap.size, 3, none⟩ = some (.int .u64 (l2 n)) ∧ w'.cell? ⟨w.heap.size, 4, none⟩ = some (.int .u64 (l3 n)) ∧ w'.cell? ⟨w.heap.size + 1, 0, none⟩ = some (.bool c) ∧ w'.cell? ⟨w.heap.size + 1, 1, none⟩ = some (.int .u64 (l0 m)) ∧ w'.cell? ⟨w.heap.size + 1, 2, none⟩ = some (.int .u64 (l1 m)) ∧ w'.cell? ⟨w.heap.size + 1, 3, none⟩ = some (.int .u64 (l2 m)) ∧ w'.cell? ⟨w.heap.size + 1, 4, none⟩ = some (.int .u64 (l3 m))) (simp [go_sem, *])
   (first | (go_at_call 67; refine (mulDouble_x n m _ hn0 hn hm0 hm).mono ?_; rintro e w3 ⟨rfl, hm3⟩; have m3 : Mo w2 w3 := Mo.trans (by repeat (first | with_reducible exact Mo.refl _ | with_reducible apply Mo.drew | with_reducible apply Mo.alloc)) hm3; obtain ⟨⟨e0, e1, e2, e3, e4, e5⟩, _, es⟩ := Qa.mo m3; obtain ⟨⟨f0, f1, f2, f3, f4, f5⟩, _, fs⟩ := Qb.mo m3; have nw3a : ¬ w.heap.size = w3.heap.size := (by omega); have nw3b : ¬ w.heap.size + 1 = w3.heap.size := (by omega); (first | (with_reducible have pq := T81.mk1 hm3; obtain ⟨p1, pz⟩ := pq) | (with_reducible have pq := T81.mk2 hm3; obtain ⟨p1, pz⟩ := pq) | skip)))
  all_goals
   go_wp2
   go_meet
   case rel =>
    have zr := (Qr.mo m3).2.2
    refine ⟨_, by cases b <;> cases c <;> rfl, rfl, by omega, ?_, ?_, ?_, ?_, ?_⟩
    ·have MM1 := M.trans m3
     first | with_reducible exact Mo.setCells (by omega) _ _ _ MM1 | with_reducible exact Mo.setCells (by omega) _ _ _ (MM1.alloc _ _)
    ·have q := Qa.mo m3
     first | with_reducible exact q.other (by omega) _ | with_reducible exact (q.mo ((Mo.refl _).alloc _ _)).other (by omega) _
    ·have q := Qb.mo m3
     first | with_reducible exact q.other (by omega) _ | with_reducible exact (q.mo ((Mo.refl _).alloc _ _)).other (by omega) _
    ·have q := Qr.mo m3
     first | with_reducible exact q.other (by omega) _ | with_reducible exact (q.mo ((Mo.refl _).alloc _ _)).other (by omega) _
    ·first | with_reducible exact AtX.same _ p1 (by omega) | exact AtX.same _ (there_new _) (by simp)
 case rest =>
  clear ca0 ca1 ca2 ca3 ca4 ca5 fa sa sxa sya cb0 cb1 cb2 cb3 cb4 cb5 fb sb sxb syb cr0 cr1 cr2 cr3 cr4 cr5 fr sr sxr syr Qa Qb Qr M nw2a nw2b rst rn1 rc
  obtain ⟨k, rfl, rfl, hk, M, Qa, Qb, Qr, Qx⟩ := hcut
  obtain ⟨X, hX⟩ : ∃ X, X = n * m := ⟨_, rfl⟩
  rw [← hX] at Qx
  have HX : Hid _ := hX
  clear hX
  generalize hnb : (b != c) = nb at *
  have HN : Hid _ := hnb
  clear hnb
  have xl := ld81 wc k X Qx.1
  have xc := Qx.cells
  obtain ⟨x0, x1, x2, x3, x4, x5, x6, x7⟩ := xc
  have Oa := Qa
  obtain ⟨⟨ca0, ca1, ca2, ca3, ca4, ca5⟩, fa, sa⟩ := Oa
  have fa := fun o => fa o
  have sxa : w.heap.size < wc.heap.size + 1 := by omega
  have sya : w.heap.size < wc.heap.size + 1 + 1 := by omega
  have Ob := Qb
  obtain ⟨⟨cb0, cb1, cb2, cb3, cb4, cb5⟩, fb, sb⟩ := Ob
  have fb := fun o => fb o
  have sxb : w.heap.size + 1 < wc.heap.size + 1 := by omega
  have syb : w.heap.size + 1 < wc.heap.size + 1 + 1 := by omega
  have Or := Qr
  obtain ⟨⟨cr0, cr1, cr2, cr3, cr4, cr5⟩, fr, sr⟩ := Or
  have fr := fun o => fr o
  have sxr : w.heap.size + 1 + 1 < wc.heap.size + 1 := by omega
  have syr : w.heap.size + 1 + 1 < wc.heap.size + 1 + 1 := by omega
  have hf := HF.out
  rw [← HX.out] at hsh
  go_wp2_with fail
  refine (hsh _).mono ?_
  rintro e w7 ⟨rfl, hm7⟩
  have mz : Mo wc w7 := Mo.trans (by repeat (first | with_reducible exact Mo.refl _ | with_reducible apply Mo.drew | with_reducible apply Mo.alloc)) hm7
  have zwca := sa
  have zwcb := sb
  have zwcr := sr
  clear ca0 ca1 ca2 ca3 ca4 ca5 fa sa sxa sya cb0 cb1 cb2 cb3 cb4 cb5 fb sb sxb syb cr0 cr1 cr2 cr3 cr4 cr5 fr sr sxr syr
  have Qa := Qa.mo mz
  have Qb := Qb.mo mz
  have Qr := Qr.mo mz
  have M := M.trans mz
  clear hm7 mz
  have Oa := Qa
  obtain ⟨⟨ca0, ca1, ca2, ca3, ca4, ca5⟩, fa, sa⟩ := Oa
  have fa := fun o => fa o
  have sxa : w.heap.size < w7.heap.size + 1 := by omega
  have sya : w.heap.size < w7.heap.size + 1 + 1 := by omega
  have Ob := Qb
  obtain ⟨⟨cb0, cb1, cb2, cb3, cb4, cb5⟩, fb, sb⟩ := Ob
  have fb := fun o => fb o
  have sxb : w.heap.size + 1 < w7.heap.size + 1 := by omega
  have syb : w.heap.size + 1 < w7.heap.size + 1 + 1 := by omega
  have Or := Qr
  obtain ⟨⟨cr0, cr1, cr2, cr3, cr4, cr5⟩, fr, sr⟩ := Or
  have fr := fun o => fr o
  have sxr : w.heap.size + 1 + 1 < w7.heap.size + 1 := by omega
  have syr : w.heap.size + 1 + 1 < w7.heap.size + 1 + 1 := by omega
  go_wp2
  refine bodyPost_ret (v := .tuple #[dz (sv nb (ro nb X f p)) S, .int .i64 0]) (by simp [results, Try.results51, go_sem, *]) rfl ?_
  refine ⟨by rw [HN.out, ← HX.out], ?_⟩
  repeat (first | with_reducible exact M | with_reducible exact Mo.refl _ | with_reducible apply Mo.drew | with_reducible apply Mo.drewN | with_reducible apply Mo.alloc | with_reducible refine Mo.setCell ?_ (by simp <;> omega) _)
set_option maxHeartbeats 8000000 in
theorem mulTo_dn_full (b c : Bool) (n m s t S p : Int) (w : World) (hn0 : 0 ≤ n) (hn : n < MM) (hm0 : 0 ≤ m) (hm : m < MM) (h1 : ck b n s = 0) (h2 : ck c m t = 0) (hS : sc S = true) (hp1 : 1 ≤ p) (hp5 : p ≤ 5) (f : Nat) (hf : s + t - S = (f : Int)) (hf0 : 0 < f) (hf36 : f ≤ 36) (hs : 0 ≤ s ∧ s ≤ 18) (ht : 0 ≤ t ∧ t ≤ 18) (hr : MM ≤ ro (b != c) (n * m) f p) :
  Calls Try.prog 51 #[dc b n s, dc c m t, .int .i64 S, .int .i64 p] w fun e w' => e = .returned (er 7) ∧ Mo w w' := by
 have bX := prod_bd hn0 hn hm0 hm
 have hsh : ∀ w, Calls Try.prog 71 #[.bool (b != c), dx (n * m), .int .i64 (f : Int), .int .i64 S, .int .i64 p] w fun e w' => e = .returned (er 7) ∧ Mo w w' := fun w => shorten_full (b != c) (n * m) S p f w bX.1 bX.2 hf36 hp1 hp5 hr
 have hst : IntKind.i64.wrap (s + t) = s + t := by rw [IntKind.wrap_i64]; omega
 have hff : IntKind.i64.wrap (f : Int) = (f : Int) := by rw [IntKind.wrap_i64]; omega
 have hd : decide ((f : Int) > 0) = true := decide_eq_true (by omega)
 have HF : Hid _ := hf
 have HR : Hid _ := hr
 clear bX hf hr
 have hsz := dwa_size
 have rst := st81
 have rn1 := there_new
 have rc := cell_sc
 go_enter Try.func51, Try.ntmps51
 go_wp2_with fail
 refine (both_ok b n s c m t _ hn0 hn hm0 hm h1 h2).mono ?_
 rintro e w1 ⟨rfl, hm1⟩
 have mz : Mo w w1 := Mo.trans (by repeat (first | with_reducible exact Mo.refl _ | with_reducible apply Mo.drew | with_reducible apply Mo.alloc)) hm1
 have M := mz
 have Qa : AtD w1 (w.heap.size) b n s := AtD.mo ⟨by simp [go_sem], fun o => by simp [go_sem], by simp <;> omega⟩ hm1
 have Qb : AtD w1 (w.heap.size + 1) c m t := AtD.mo ⟨by simp [go_sem], fun o => by simp [go_sem], by simp <;> omega⟩ hm1
 have Qr : AtD w1 (w.heap.size + 1 + 1) false 0 0 := AtD.mo ⟨by simp [go_sem, zl0, zl1, zl2, zl3], fun o => by simp [go_sem], by simp <;> omega⟩ hm1
 clear hm1 mz
 have Oa := Qa
 obtain ⟨⟨ca0, ca1, ca2, ca3, ca4, ca5⟩, fa, sa⟩ := Oa
 have fa := fun o => fa o
 have sxa : w.heap.size < w1.heap.size + 1 := by omega
 have sya : w.heap.size < w1.heap.size + 1 + 1 := by omega
 have Ob := Qb
 obtain ⟨⟨cb0, cb1, cb2, cb3, cb4, cb5⟩, fb, sb⟩ := Ob
 have fb := fun o => fb o
 have sxb : w.heap.size + 1 < w1.heap.size + 1 := by omega
 have syb : w.heap.size + 1 < w1.heap.size + 1 + 1 := by omega
 have Or := Qr
 obtain ⟨⟨cr0, cr1, cr2, cr3, cr4, cr5⟩, fr, sr⟩ := Or
 have fr := fun o => fr o
 have sxr : w.heap.size + 1 + 1 < w1.heap.size + 1 := by omega
 have syr : w.heap.size + 1 + 1 < w1.heap.size + 1 + 1 := by omega
 go_wp2_with fail
 refine (cr_ok S p _ hS hp1 hp5).mono ?_
 rintro e w2 ⟨rfl, hm2⟩
 have mz : Mo w1 w2 := Mo.trans (by repeat (first | with_reducible exact Mo.refl _ | with_reducible apply Mo.drew | with_reducible apply Mo.alloc)) hm2
 have zw1a := sa
 have zw1b := sb
 have zw1r := sr
 clear ca0 ca1 ca2 ca3 ca4 ca5 fa sa sxa sya cb0 cb1 cb2 cb3 cb4 cb5 fb sb sxb syb cr0 cr1 cr2 cr3 cr4 cr5 fr sr sxr syr
 have Qa := Qa.mo mz
 have Qb := Qb.mo mz
 have Qr := Qr.mo mz
 have M := M.trans mz
 clear hm2 mz
 have Oa := Qa
 obtain ⟨⟨ca0, ca1, ca2, ca3, ca4, ca5⟩, fa, sa⟩ := Oa
 have fa := fun o => fa o
 have sxa : w.heap.size < w2.heap.size + 1 := by omega
 have sya : w.heap.size < w2.heap.size + 1 + 1 := by omega
 have Ob := Qb
 obtain ⟨⟨cb0, cb1, cb2, cb3, cb4, cb5⟩, fb, sb⟩ := Ob
 have fb := fun o => fb o
 have sxb : w.heap.size + 1 < w2.heap.size + 1 := by omega
 have syb : w.heap.size + 1 < w2.heap.size + 1 + 1 := by omega
 have Or := Qr
 obtain ⟨⟨cr0, cr1, cr2, cr3, cr4, cr5⟩, fr, sr⟩ := Or
 have fr := fun o => fr o
 have sxr : w.heap.size + 1 + 1 < w2.heap.size + 1 := by omega
 have syr : w.heap.size + 1 + 1 < w2.heap.size + 1 + 1 := by omega
 go_upto_region 7 with fail
 have nw2a : ¬ w.heap.size = w2.heap.size := (by omega)
 have nw2b : ¬ w.heap.size + 1 = w2.heap.size := (by omega)
 go_cut [12, 13] from 29 to 38 (fun s12 s13 wx => ∃ k, s12 = .bool (b != c) ∧ s13 = .pointer (some ⟨k, 0, none⟩) ∧ w.heap.size + 1 + 1 < k ∧ Mo w wx ∧ AtD wx w.heap.size b n s ∧ AtD wx (w.heap.size + 1) c m t ∧ AtD wx (w.heap.size + 1 + 1) false 0 0 ∧ AtX wx k (n * m))
 case first =>
  go_region_held3 (fun w' => w'.cell? ⟨w.heap.size, 0, none⟩ = some (.bool b) ∧ w'.cell? ⟨w.heap.size, 1, none⟩ = some (.int .u64 (l0 n)) ∧ w'.cell? ⟨w.heap.size, 2, none⟩ = some (.int .u64 (l1 n)) ∧ w'.cell? ⟨w.heap.size, 3, none⟩ = some (.int .u64 (l2 n)) ∧ w'.cell? ⟨w.heap.size, 4, none⟩ = some (.int .u64 (l3 n)) ∧ w'.cell? ⟨w.heap.size + 1, 0, none⟩ = some (.bool c) ∧ w'.cell? ⟨w.heap.size + 1, 1, none⟩ = some (.int .u64 (l0 m)) ∧ w'.cell? ⟨w.heap.size + 1, 2, none⟩ = some (.int .u64 (l1 m)) ∧ w'.cell? ⟨w.heap.size + 1, 3, none⟩ = some (.int .u64 (l2 m)) ∧ w'.cell? ⟨w.heap.size + 1, 4, none⟩ = some (.int .u64 (l3 m))) (simp [go_sem, *])
   (first | (go_at_call 67; refine (mulDouble_x n m _ hn0 hn hm0 hm).mono ?_; rintro e w3 ⟨rfl, hm3⟩; have m3 : Mo w2 w3 := Mo.trans (by repeat (first | with_reducible exact Mo.refl _ | with_reducible apply Mo.drew | with_reducible apply Mo.alloc)) hm3; obtain ⟨⟨e0, e1, e2, e3, e4, e5⟩, _, es⟩ := Qa.mo m3; obtain ⟨⟨f0, f1, f2, f3, f4, f5⟩, _, fs⟩ := Qb.mo m3; have nw3a : ¬ w.heap.size = w3.heap.size := (by omega); have nw3b : ¬ w.heap.size + 1 = w3.heap.size := (by omega); (first | (with_reducible have pq := T81.mk1 hm3; obtain ⟨p1, pz⟩ := pq) | (with_reducible have pq := T81.mk2 hm3; obtain ⟨p1, pz⟩ := pq) | skip)))
  all_goals
   go_wp2
   go_meet
   case rel =>
    have zr := (Qr.mo m3).2.2
    refine ⟨_, by cases b <;> cases c <;> rfl, rfl, by omega, ?_, ?_, ?_, ?_, ?_⟩
    ·have MM1 := M.trans m3
     first | with_reducible exact Mo.setCells (by omega) _ _ _ MM1 | with_reducible exact Mo.setCells (by omega) _ _ _ (MM1.alloc _ _)
    ·have q := Qa.mo m3
     first | with_reducible exact q.other (by omega) _ | with_reducible exact (q.mo ((Mo.refl _).alloc _ _)).other (by omega) _
    ·have q := Qb.mo m3
     first | with_reducible exact q.other (by omega) _ | with_reducible exact (q.mo ((Mo.refl _).alloc _ _)).other (by omega) _
    ·have q := Qr.mo m3
     first | with_reducible exact q.other (by omega) _ | with_reducible exact (q.mo ((Mo.refl _).alloc _ _)).other (by omega) _
    ·first | with_reducible exact AtX.same _ p1 (by omega) | exact AtX.same _ (there_new _) (by simp)
 case rest =>
  clear ca0 ca1 ca2 ca3 ca4 ca5 fa sa sxa sya cb0 cb1 cb2 cb3 cb4 cb5 fb sb sxb syb cr0 cr1 cr2 cr3 cr4 cr5 fr sr sxr syr Qa Qb Qr M nw2a nw2b rst rn1 rc
  obtain ⟨k, rfl, rfl, hk, M, Qa, Qb, Qr, Qx⟩ := hcut
  obtain ⟨X, hX⟩ : ∃ X, X = n * m := ⟨_, rfl⟩
  rw [← hX] at Qx
  have HX : Hid _ := hX
  clear hX
  generalize hnb : (b != c) = nb at *
  have HN : Hid _ := hnb
  clear hnb
  have xl := ld81 wc k X Qx.1
  have xc := Qx.cells
  obtain ⟨x0, x1, x2, x3, x4, x5, x6, x7⟩ := xc
  have Oa := Qa
  obtain ⟨⟨ca0, ca1, ca2, ca3, ca4, ca5⟩, fa, sa⟩ := Oa
  have fa := fun o => fa o
  have sxa : w.heap.size < wc.heap.size + 1 := by omega
  have sya : w.heap.size < wc.heap.size + 1 + 1 := by omega
  have Ob := Qb
  obtain ⟨⟨cb0, cb1, cb2, cb3, cb4, cb5⟩, fb, sb⟩ := Ob
  have fb := fun o => fb o
  have sxb : w.heap.size + 1 < wc.heap.size + 1 := by omega
  have syb : w.heap.size + 1 < wc.heap.size + 1 + 1 := by omega
  have Or := Qr
  obtain ⟨⟨cr0, cr1, cr2, cr3, cr4, cr5⟩, fr, sr⟩ := Or
  have fr := fun o => fr o
  have sxr : w.heap.size + 1 + 1 < wc.heap.size + 1 := by omega
  have syr : w.heap.size + 1 + 1 < wc.heap.size + 1 + 1 := by omega
  have hf := HF.out
  rw [← HX.out] at hsh
  go_wp2_with fail
  refine (hsh _).mono ?_
  rintro e w7 ⟨rfl, hm7⟩
  have mz : Mo wc w7 := Mo.trans (by repeat (first | with_reducible exact Mo.refl _ | with_reducible apply Mo.drew | with_reducible apply Mo.alloc)) hm7
  have zwca := sa
  have zwcb := sb
  have zwcr := sr
  clear ca0 ca1 ca2 ca3 ca4 ca5 fa sa sxa sya cb0 cb1 cb2 cb3 cb4 cb5 fb sb sxb syb cr0 cr1 cr2 cr3 cr4 cr5 fr sr sxr syr
  have Qa := Qa.mo mz
  have Qb := Qb.mo mz
  have Qr := Qr.mo mz
  have M := M.trans mz
  clear hm7 mz
  have Oa := Qa
  obtain ⟨⟨ca0, ca1, ca2, ca3, ca4, ca5⟩, fa, sa⟩ := Oa
  have fa := fun o => fa o
  have sxa : w.heap.size < w7.heap.size + 1 := by omega
  have sya : w.heap.size < w7.heap.size + 1 + 1 := by omega
  have Ob := Qb
  obtain ⟨⟨cb0, cb1, cb2, cb3, cb4, cb5⟩, fb, sb⟩ := Ob
  have fb := fun o => fb o
  have sxb : w.heap.size + 1 < w7.heap.size + 1 := by omega
  have syb : w.heap.size + 1 < w7.heap.size + 1 + 1 := by omega
  have Or := Qr
  obtain ⟨⟨cr0, cr1, cr2, cr3, cr4, cr5⟩, fr, sr⟩ := Or
  have fr := fun o => fr o
  have sxr : w.heap.size + 1 + 1 < w7.heap.size + 1 := by omega
  have syr : w.heap.size + 1 + 1 < w7.heap.size + 1 + 1 := by omega
  go_wp2
  refine bodyPost_ret (v := er 7) (by simp [results, Try.results51, go_sem, *]) rfl ?_
  refine ⟨rfl, ?_⟩
  repeat (first | with_reducible exact M | with_reducible exact Mo.refl _ | with_reducible apply Mo.drew | with_reducible apply Mo.drewN | with_reducible apply Mo.alloc | with_reducible refine Mo.setCell ?_ (by simp <;> omega) _)
end Go.Proofs.Ythehmmhnacomkaa

namespace Go.Proofs.Ythehmmhnacomkaa
open Go.RowKit
set_option maxHeartbeats 4000000 in
theorem dsub_ok (b c : Bool) (n m s t : Int) (w : World) (_hn0 : 0 ≤ n) (_hn : n < MM) (hm0 : 0 ≤ m) (hm : m < MM) (h : ck c m t = 0) (V S : Int) (hadd : ∀ w, Calls Try.prog 52 #[dc b n s, dc (!c && !decide (m = 0)) m t] w fun e' w' => e' = .returned (.tuple #[dz V S, .int .i64 0]) ∧ Mo w w') :
  Calls Try.prog 50 #[dc b n s, dc c m t] w fun e' w' => e' = .returned (.tuple #[dz V S, .int .i64 0]) ∧ Mo w w' := by
 obtain ⟨d, hd⟩ : ∃ d, d = (!c && !decide (m = 0)) := ⟨_, rfl⟩
 have hneg : ∀ w, Calls Try.prog 69 #[dc c m t] w fun e w' => e = .returned (.tuple #[dc d m t, .int .i64 0]) ∧ Mo w w' := fun w => by rw [hd]; exact neg_ok c m t w hm0 hm h
 rw [← hd] at hadd
 clear hd
 go_enter Try.func50, Try.ntmps50
 go_wp2_with fail
 refine (hneg _).mono ?_
 rintro e' w1 ⟨rfl, hm1⟩
 have mz : Mo w w1 := Mo.trans (by repeat (first | with_reducible exact Mo.refl _ | with_reducible apply Mo.drew | with_reducible apply Mo.alloc)) hm1
 have M := mz
 have Qa : AtD w1 (w.heap.size) b n s := AtD.mo ⟨by simp [go_sem], fun o => by simp [go_sem], by simp <;> omega⟩ hm1
 have Qb : AtD w1 (w.heap.size + 1) c m t := AtD.mo ⟨by simp [go_sem], fun o => by simp [go_sem], by simp <;> omega⟩ hm1
 have Qr : AtD w1 (w.heap.size + 1 + 1) false 0 0 := AtD.mo ⟨by simp [go_sem, zl0, zl1, zl2, zl3], fun o => by simp [go_sem], by simp <;> omega⟩ hm1
 clear hm1 mz
 have Oa := Qa
 obtain ⟨⟨ca0, ca1, ca2, ca3, ca4, ca5⟩, fa, sa⟩ := Oa
 have fa := fun o => fa o
 have sxa : w.heap.size < w1.heap.size + 1 := by omega
 have sya : w.heap.size < w1.heap.size + 1 + 1 := by omega
 have Ob := Qb
 obtain ⟨⟨cb0, cb1, cb2, cb3, cb4, cb5⟩, fb, sb⟩ := Ob
 have fb := fun o => fb o
 have sxb : w.heap.size + 1 < w1.heap.size + 1 := by omega
 have syb : w.heap.size + 1 < w1.heap.size + 1 + 1 := by omega
 have Or := Qr
 obtain ⟨⟨cr0, cr1, cr2, cr3, cr4, cr5⟩, fr, sr⟩ := Or
 have fr := fun o => fr o
 have sxr : w.heap.size + 1 + 1 < w1.heap.size + 1 := by omega
 have syr : w.heap.size + 1 + 1 < w1.heap.size + 1 + 1 := by omega
 go_wp2_with fail
 refine (hadd _).mono ?_
 rintro e' w2 ⟨rfl, hm2⟩
 have mz : Mo w1 w2 := Mo.trans (by repeat (first | with_reducible exact Mo.refl _ | with_reducible apply Mo.drew | with_reducible apply Mo.alloc)) hm2
 have zw1a := sa
 have zw1b := sb
 have zw1r := sr
 clear ca0 ca1 ca2 ca3 ca4 ca5 fa sa sxa sya cb0 cb1 cb2 cb3 cb4 cb5 fb sb sxb syb cr0 cr1 cr2 cr3 cr4 cr5 fr sr sxr syr
 have Qa := Qa.mo mz
 have Qb := Qb.mo mz
 have Qr := Qr.mo mz
 have M := M.trans mz
 clear hm2 mz
 have Oa := Qa
 obtain ⟨⟨ca0, ca1, ca2, ca3, ca4, ca5⟩, fa, sa⟩ := Oa
 have fa := fun o => fa o
 have sxa : w.heap.size < w2.heap.size + 1 := by omega
 have sya : w.heap.size < w2.heap.size + 1 + 1 := by omega
 have Ob := Qb
 obtain ⟨⟨cb0, cb1, cb2, cb3, cb4, cb5⟩, fb, sb⟩ := Ob
 have fb := fun o => fb o
 have sxb : w.heap.size + 1 < w2.heap.size + 1 := by omega
 have syb : w.heap.size + 1 < w2.heap.size + 1 + 1 := by omega
 have Or := Qr
 obtain ⟨⟨cr0, cr1, cr2, cr3, cr4, cr5⟩, fr, sr⟩ := Or
 have fr := fun o => fr o
 have sxr : w.heap.size + 1 + 1 < w2.heap.size + 1 := by omega
 have syr : w.heap.size + 1 + 1 < w2.heap.size + 1 + 1 := by omega
 go_wp2
 refine bodyPost_ret (v := .tuple #[dz V S, .int .i64 0]) (by simp [results, Try.results50, go_sem, *]) rfl ?_
 refine ⟨rfl, ?_⟩
 repeat (first | with_reducible exact M | with_reducible exact Mo.refl _ | with_reducible apply Mo.drew | with_reducible apply Mo.drewN | with_reducible apply Mo.alloc | with_reducible refine Mo.setCell ?_ (by simp <;> omega) _)
set_option maxHeartbeats 4000000 in
theorem dsub_er (b c : Bool) (n m s t : Int) (w : World) (_hn0 : 0 ≤ n) (_hn : n < MM) (hm0 : 0 ≤ m) (hm : m < MM) (h : ck c m t = 0) (e : Int) (hadd : ∀ w, Calls Try.prog 52 #[dc b n s, dc (!c && !decide (m = 0)) m t] w fun e' w' => e' = .returned (er e) ∧ Mo w w') :
  Calls Try.prog 50 #[dc b n s, dc c m t] w fun e' w' => e' = .returned (er e) ∧ Mo w w' := by
 obtain ⟨d, hd⟩ : ∃ d, d = (!c && !decide (m = 0)) := ⟨_, rfl⟩
 have hneg : ∀ w, Calls Try.prog 69 #[dc c m t] w fun e w' => e = .returned (.tuple #[dc d m t, .int .i64 0]) ∧ Mo w w' := fun w => by rw [hd]; exact neg_ok c m t w hm0 hm h
 rw [← hd] at hadd
 clear hd
 go_enter Try.func50, Try.ntmps50
 go_wp2_with fail
 refine (hneg _).mono ?_
 rintro e' w1 ⟨rfl, hm1⟩
 have mz : Mo w w1 := Mo.trans (by repeat (first | with_reducible exact Mo.refl _ | with_reducible apply Mo.drew | with_reducible apply Mo.alloc)) hm1
 have M := mz
 have Qa : AtD w1 (w.heap.size) b n s := AtD.mo ⟨by simp [go_sem], fun o => by simp [go_sem], by simp <;> omega⟩ hm1
 have Qb : AtD w1 (w.heap.size + 1) c m t := AtD.mo ⟨by simp [go_sem], fun o => by simp [go_sem], by simp <;> omega⟩ hm1
 have Qr : AtD w1 (w.heap.size + 1 + 1) false 0 0 := AtD.mo ⟨by simp [go_sem, zl0, zl1, zl2, zl3], fun o => by simp [go_sem], by simp <;> omega⟩ hm1
 clear hm1 mz
 have Oa := Qa
 obtain ⟨⟨ca0, ca1, ca2, ca3, ca4, ca5⟩, fa, sa⟩ := Oa
 have fa := fun o => fa o
 have sxa : w.heap.size < w1.heap.size + 1 := by omega
 have sya : w.heap.size < w1.heap.size + 1 + 1 := by omega
 have Ob := Qb
 obtain ⟨⟨cb0, cb1, cb2, cb3, cb4, cb5⟩, fb, sb⟩ := Ob
 have fb := fun o => fb o
 have sxb : w.heap.size + 1 < w1.heap.size + 1 := by omega
 have syb : w.heap.size + 1 < w1.heap.size + 1 + 1 := by omega
 have Or := Qr
 obtain ⟨⟨cr0, cr1, cr2, cr3, cr4, cr5⟩, fr, sr⟩ := Or
 have fr := fun o => fr o
 have sxr : w.heap.size + 1 + 1 < w1.heap.size + 1 := by omega
 have syr : w.heap.size + 1 + 1 < w1.heap.size + 1 + 1 := by omega
 go_wp2_with fail
 refine (hadd _).mono ?_
 rintro e' w2 ⟨rfl, hm2⟩
 have mz : Mo w1 w2 := Mo.trans (by repeat (first | with_reducible exact Mo.refl _ | with_reducible apply Mo.drew | with_reducible apply Mo.alloc)) hm2
 have zw1a := sa
 have zw1b := sb
 have zw1r := sr
 clear ca0 ca1 ca2 ca3 ca4 ca5 fa sa sxa sya cb0 cb1 cb2 cb3 cb4 cb5 fb sb sxb syb cr0 cr1 cr2 cr3 cr4 cr5 fr sr sxr syr
 have Qa := Qa.mo mz
 have Qb := Qb.mo mz
 have Qr := Qr.mo mz
 have M := M.trans mz
 clear hm2 mz
 have Oa := Qa
 obtain ⟨⟨ca0, ca1, ca2, ca3, ca4, ca5⟩, fa, sa⟩ := Oa
 have fa := fun o => fa o
 have sxa : w.heap.size < w2.heap.size + 1 := by omega
 have sya : w.heap.size < w2.heap.size + 1 + 1 := by omega
 have Ob := Qb
 obtain ⟨⟨cb0, cb1, cb2, cb3, cb4, cb5⟩, fb, sb⟩ := Ob
 have fb := fun o => fb o
 have sxb : w.heap.size + 1 < w2.heap.size + 1 := by omega
 have syb : w.heap.size + 1 < w2.heap.size + 1 + 1 := by omega
 have Or := Qr
 obtain ⟨⟨cr0, cr1, cr2, cr3, cr4, cr5⟩, fr, sr⟩ := Or
 have fr := fun o => fr o
 have sxr : w.heap.size + 1 + 1 < w2.heap.size + 1 := by omega
 have syr : w.heap.size + 1 + 1 < w2.heap.size + 1 + 1 := by omega
 go_wp2
 refine bodyPost_ret (v := er e) (by simp [results, Try.results50, go_sem, *]) rfl ?_
 refine ⟨rfl, ?_⟩
 repeat (first | with_reducible exact M | with_reducible exact Mo.refl _ | with_reducible apply Mo.drew | with_reducible apply Mo.drewN | with_reducible apply Mo.alloc | with_reducible refine Mo.setCell ?_ (by simp <;> omega) _)
end Go.Proofs.Ythehmmhnacomkaa


/-
  A part of the proof.
-/
import Derived.Test.YtoiiekmkcpcbgaaRows
import Derived.ProofKit
import Derived.OpenShut
import Derived.Lib.SmallJoins
import Derived.ChangeSame
import Derived.Test.YtoiiekmkcpcbgaaB4
/-
  decimal.Mul and Sub: the walks.
-/
namespace Go.Proofs.Ytoiiekmkcpcbgaa
open Go.RowKit
set_option maxHeartbeats 4000000 in
theorem dmul_no (b c : Bool) (n m s t : Int) (w : World) (hn0 : 0 ≤ n) (hn : n < MM) (hm0 : 0 ≤ m) (hm : m < MM) (h : ¬ (ck b n s = 0 ∧ ck c m t = 0)) :
    Calls Try.prog 39 #[dc b n s, dc c m t] w fun e w' => e = .returned (er 20) ∧ Mo w w' := by
  go_enter Try.func39, Try.ntmps39
  go_wp2_with fail
  refine (both_no b n s c m t _ hn0 hn hm0 hm h).mono ?_
  rintro e' w1 ⟨rfl, hm1⟩
  have mz : Mo w w1 := Mo.trans (by repeat (first | with_reducible exact Mo.refl _ | with_reducible apply Mo.drew | with_reducible apply Mo.alloc)) hm1
  have M := mz
  have Qa : AtD w1 (w.heap.size) b n s := AtD.mo ⟨by simp [go_sem], fun o => by simp [go_sem], by simp <;> omega⟩ hm1
  have Qb : AtD w1 (w.heap.size + 1) c m t := AtD.mo ⟨by simp [go_sem], fun o => by simp [go_sem], by simp <;> omega⟩ hm1
  have Qr : AtD w1 (w.heap.size + 1 + 1) false 0 0 := AtD.mo ⟨by simp [go_sem, zl0, zl1, zl2, zl3], fun o => by simp [go_sem], by simp <;> omega⟩ hm1
  clear hm1 mz
  have Oa := Qa
  obtain ⟨⟨ca0, ca1, ca2, ca3, ca4, ca5⟩, fa, sa⟩ := Oa
  have fa := fun o => fa o
  have sxa : w.heap.size < w1.heap.size + 1 := by omega
  have sya : w.heap.size < w1.heap.size + 1 + 1 := by omega
  have Ob := Qb
  obtain ⟨⟨cb0, cb1, cb2, cb3, cb4, cb5⟩, fb, sb⟩ := Ob
  have fb := fun o => fb o
  have sxb : w.heap.size + 1 < w1.heap.size + 1 := by omega
  have syb : w.heap.size + 1 < w1.heap.size + 1 + 1 := by omega
  have Or := Qr
  obtain ⟨⟨cr0, cr1, cr2, cr3, cr4, cr5⟩, fr, sr⟩ := Or
  have fr := fun o => fr o
  have sxr : w.heap.size + 1 + 1 < w1.heap.size + 1 := by omega
  have syr : w.heap.size + 1 + 1 < w1.heap.size + 1 + 1 := by omega
  go_wp2
  refine bodyPost_ret (v := er 20) (by simp [results, Try.results39, go_sem, *]) rfl ?_
  refine ⟨rfl, ?_⟩
  repeat (first | with_reducible exact M | with_reducible exact Mo.refl _ | with_reducible apply Mo.drew | with_reducible apply Mo.drewN | with_reducible apply Mo.alloc | with_reducible refine Mo.setCell ?_ (by simp <;> omega) _)
set_option maxHeartbeats 4000000 in
theorem dmul_sc (b c : Bool) (n m s t : Int) (w : World) (hn0 : 0 ≤ n) (hn : n < MM) (hm0 : 0 ≤ m) (hm : m < MM) (h1 : ck b n s = 0) (h2 : ck c m t = 0) (hb1 : 0 ≤ s ∧ s ≤ 18) (hb2 : 0 ≤ t ∧ t ≤ 18) (hs : sc (s + t) = false) :
    Calls Try.prog 39 #[dc b n s, dc c m t] w fun e w' => e = .returned (er 21) ∧ Mo w w' := by
  have hst : IntKind.i64.wrap (s + t) = s + t := by rw [IntKind.wrap_i64]; omega
  go_enter Try.func39, Try.ntmps39
  go_wp2_with fail
  refine (both_ok b n s c m t _ hn0 hn hm0 hm h1 h2).mono ?_
  rintro e' w1 ⟨rfl, hm1⟩
  have mz : Mo w w1 := Mo.trans (by repeat (first | with_reducible exact Mo.refl _ | with_reducible apply Mo.drew | with_reducible apply Mo.alloc)) hm1
  have M := mz
  have Qa : AtD w1 (w.heap.size) b n s := AtD.mo ⟨by simp [go_sem], fun o => by simp [go_sem], by simp <;> omega⟩ hm1
  have Qb : AtD w1 (w.heap.size + 1) c m t := AtD.mo ⟨by simp [go_sem], fun o => by simp [go_sem], by simp <;> omega⟩ hm1
  have Qr : AtD w1 (w.heap.size + 1 + 1) false 0 0 := AtD.mo ⟨by simp [go_sem, zl0, zl1, zl2, zl3], fun o => by simp [go_sem], by simp <;> omega⟩ hm1
  clear hm1 mz
  have Oa := Qa
  obtain ⟨⟨ca0, ca1, ca2, ca3, ca4, ca5⟩, fa, sa⟩ := Oa
  have fa := fun o => fa o
  have sxa : w.heap.size < w1.heap.size + 1 := by omega
  have sya : w.heap.size < w1.heap.size + 1 + 1 := by omega
  have Ob := Qb
  obtain ⟨⟨cb0, cb1, cb2, cb3, cb4, cb5⟩, fb, sb⟩ := Ob
  have fb := fun o => fb o
  have sxb : w.heap.size + 1 < w1.heap.size + 1 := by omega
  have syb : w.heap.size + 1 < w1.heap.size + 1 + 1 := by omega
  have Or := Qr
  obtain ⟨⟨cr0, cr1, cr2, cr3, cr4, cr5⟩, fr, sr⟩ := Or
  have fr := fun o => fr o
  have sxr : w.heap.size + 1 + 1 < w1.heap.size + 1 := by omega
  have syr : w.heap.size + 1 + 1 < w1.heap.size + 1 + 1 := by omega
  go_wp2_with fail
  refine (isScale_n (s + t) _).mono ?_
  rintro e' w2 ⟨rfl, hm2⟩
  have mz : Mo w1 w2 := Mo.trans (by repeat (first | with_reducible exact Mo.refl _ | with_reducible apply Mo.drew | with_reducible apply Mo.alloc)) hm2
  have zw1a := sa
  have zw1b := sb
  have zw1r := sr
  clear ca0 ca1 ca2 ca3 ca4 ca5 fa sa sxa sya cb0 cb1 cb2 cb3 cb4 cb5 fb sb sxb syb cr0 cr1 cr2 cr3 cr4 cr5 fr sr sxr syr
  have Qa := Qa.mo mz
  have Qb := Qb.mo mz
  have Qr := Qr.mo mz
  have M := M.trans mz
  clear hm2 mz
  have Oa := Qa
  obtain ⟨⟨ca0, ca1, ca2, ca3, ca4, ca5⟩, fa, sa⟩ := Oa
  have fa := fun o => fa o
  have sxa : w.heap.size < w2.heap.size + 1 := by omega
  have sya : w.heap.size < w2.heap.size + 1 + 1 := by omega
  have Ob := Qb
  obtain ⟨⟨cb0, cb1, cb2, cb3, cb4, cb5⟩, fb, sb⟩ := Ob
  have fb := fun o => fb o
  have sxb : w.heap.size + 1 < w2.heap.size + 1 := by omega
  have syb : w.heap.size + 1 < w2.heap.size + 1 + 1 := by omega
  have Or := Qr
  obtain ⟨⟨cr0, cr1, cr2, cr3, cr4, cr5⟩, fr, sr⟩ := Or
  have fr := fun o => fr o
  have sxr : w.heap.size + 1 + 1 < w2.heap.size + 1 := by omega
  have syr : w.heap.size + 1 + 1 < w2.heap.size + 1 + 1 := by omega
  go_wp2
  refine bodyPost_ret (v := er 21) (by simp [results, Try.results39, go_sem, *]) rfl ?_
  refine ⟨rfl, ?_⟩
  repeat (first | with_reducible exact M | with_reducible exact Mo.refl _ | with_reducible apply Mo.drew | with_reducible apply Mo.drewN | with_reducible apply Mo.alloc | with_reducible refine Mo.setCell ?_ (by simp <;> omega) _)
set_option maxHeartbeats 4000000 in
theorem dmul_room (b c : Bool) (n m s t : Int) (w : World) (hn0 : 0 ≤ n) (hn : n < MM) (hm0 : 0 ≤ m) (hm : m < MM) (h1 : ck b n s = 0) (h2 : ck c m t = 0) (hb1 : 0 ≤ s ∧ s ≤ 18) (hb2 : 0 ≤ t ∧ t ≤ 18) (hs : sc (s + t) = true) (hr : n * m < MM) :
    Calls Try.prog 39 #[dc b n s, dc c m t] w fun e w' => e = .returned (.tuple #[dz (sv (b != c) (n * m)) (s + t), .int .i64 0]) ∧ Mo w w' := by
  have hst : IntKind.i64.wrap (s + t) = s + t := by rw [IntKind.wrap_i64]; omega
  have bX := prod_bd hn0 hn hm0 hm
  have hmul : ∀ w, Calls Try.prog 87 #[nv n, nv m] w fun e w' => e = .returned (dx (n * m)) ∧ Mo w w' := fun w => mulDouble_x n m w hn0 hn hm0 hm
  have hfit : ∀ w, Calls Try.prog 77 #[.bool (!b == c), dx (n * m), .int .i64 (s + t)] w fun e w' => e = .returned (.tuple #[dz (sv (b != c) (n * m)) (s + t), .int .i64 0]) ∧ Mo w w' := fun w => by
    have e : (!b == c) = (b != c) := rfl
    rw [e]
    exact fit_room (b != c) (n * m) (s + t) w bX.1 hr
  have HR : Hid _ := hr
  clear bX hr
  go_enter Try.func39, Try.ntmps39
  go_wp2_with fail
  refine (both_ok b n s c m t _ hn0 hn hm0 hm h1 h2).mono ?_
  rintro e' w1 ⟨rfl, hm1⟩
  have mz : Mo w w1 := Mo.trans (by repeat (first | with_reducible exact Mo.refl _ | with_reducible apply Mo.drew | with_reducible apply Mo.alloc)) hm1
  have M := mz
  have Qa : AtD w1 (w.heap.size) b n s := AtD.mo ⟨by simp [go_sem], fun o => by simp [go_sem], by simp <;> omega⟩ hm1
  have Qb : AtD w1 (w.heap.size + 1) c m t := AtD.mo ⟨by simp [go_sem], fun o => by simp [go_sem], by simp <;> omega⟩ hm1
  have Qr : AtD w1 (w.heap.size + 1 + 1) false 0 0 := AtD.mo ⟨by simp [go_sem, zl0, zl1, zl2, zl3], fun o => by simp [go_sem], by simp <;> omega⟩ hm1
  clear hm1 mz
  have Oa := Qa
  obtain ⟨⟨ca0, ca1, ca2, ca3, ca4, ca5⟩, fa, sa⟩ := Oa
  have fa := fun o => fa o
  have sxa : w.heap.size < w1.heap.size + 1 := by omega
  have sya : w.heap.size < w1.heap.size + 1 + 1 := by omega
  have Ob := Qb
  obtain ⟨⟨cb0, cb1, cb2, cb3, cb4, cb5⟩, fb, sb⟩ := Ob
  have fb := fun o => fb o
  have sxb : w.heap.size + 1 < w1.heap.size + 1 := by omega
  have syb : w.heap.size + 1 < w1.heap.size + 1 + 1 := by omega
  have Or := Qr
  obtain ⟨⟨cr0, cr1, cr2, cr3, cr4, cr5⟩, fr, sr⟩ := Or
  have fr := fun o => fr o
  have sxr : w.heap.size + 1 + 1 < w1.heap.size + 1 := by omega
  have syr : w.heap.size + 1 + 1 < w1.heap.size + 1 + 1 := by omega
  go_wp2_with fail
  refine (isScale_n (s + t) _).mono ?_
  rintro e' w2 ⟨rfl, hm2⟩
  have mz : Mo w1 w2 := Mo.trans (by repeat (first | with_reducible exact Mo.refl _ | with_reducible apply Mo.drew | with_reducible apply Mo.alloc)) hm2
  have zw1a := sa
  have zw1b := sb
  have zw1r := sr
  clear ca0 ca1 ca2 ca3 ca4 ca5 fa sa sxa sya cb0 cb1 cb2 cb3 cb4 cb5 fb sb sxb syb cr0 cr1 cr2 cr3 cr4 cr5 fr sr sxr syr
  have Qa := Qa.mo mz
  have Qb := Qb.mo mz
  have Qr := Qr.mo mz
  have M := M.trans mz
  clear hm2 mz
  have Oa := Qa
  obtain ⟨⟨ca0, ca1, ca2, ca3, ca4, ca5⟩, fa, sa⟩ := Oa
  have fa := fun o => fa o
  have sxa : w.heap.size < w2.heap.size + 1 := by omega
  have sya : w.heap.size < w2.heap.size + 1 + 1 := by omega
  have Ob := Qb
  obtain ⟨⟨cb0, cb1, cb2, cb3, cb4, cb5⟩, fb, sb⟩ := Ob
  have fb := fun o => fb o
  have sxb : w.heap.size + 1 < w2.heap.size + 1 := by omega
  have syb : w.heap.size + 1 < w2.heap.size + 1 + 1 := by omega
  have Or := Qr
  obtain ⟨⟨cr0, cr1, cr2, cr3, cr4, cr5⟩, fr, sr⟩ := Or
  have fr := fun o => fr o
  have sxr : w.heap.size + 1 + 1 < w2.heap.size + 1 := by omega
  have syr : w.heap.size + 1 + 1 < w2.heap.size + 1 + 1 := by omega
  go_upto_region 7 with fail
  go_region_held3 (fun w' => w'.cell? ⟨w.heap.size, 0, none⟩ = some (.bool b) ∧ w'.cell? ⟨w.heap.size, 1, none⟩ = some (.int .u64 (l0 n)) ∧ w'.cell? ⟨w.heap.size, 2, none⟩ = some (.int .u64 (l1 n)) ∧ w'.cell? ⟨w.heap.size, 3, none⟩ = some (.int .u64 (l2 n)) ∧ w'.cell? ⟨w.heap.size, 4, none⟩ = some (.int .u64 (l3 n)) ∧ w'.cell? ⟨w.heap.size + 1, 0, none⟩ = some (.bool c) ∧ w'.cell? ⟨w.heap.size + 1, 1, none⟩ = some (.int .u64 (l0 m)) ∧ w'.cell? ⟨w.heap.size + 1, 2, none⟩ = some (.int .u64 (l1 m)) ∧ w'.cell? ⟨w.heap.size + 1, 3, none⟩ = some (.int .u64 (l2 m)) ∧ w'.cell? ⟨w.heap.size + 1, 4, none⟩ = some (.int .u64 (l3 m))) (simp [go_sem, *])
    (first | (go_at_call 87; refine (hmul _).mono ?_; rintro e w6 ⟨rfl, hm6⟩; have m6 : Mo w2 w6 := Mo.trans (by repeat (first | with_reducible exact Mo.refl _ | with_reducible apply Mo.drew | with_reducible apply Mo.alloc)) hm6; obtain ⟨⟨e0, e1, e2, e3, e4, e5⟩, _, es⟩ := Qa.mo m6; obtain ⟨⟨f0, f1, f2, f3, f4, f5⟩, _, fs⟩ := Qb.mo m6) | (go_at_call 77; refine (hfit _).mono ?_; rintro e w7 ⟨rfl, hm7⟩; have m7 : Mo w6 w7 := Mo.trans (by repeat (first | with_reducible exact Mo.refl _ | with_reducible apply Mo.drew | with_reducible apply Mo.alloc)) hm7; have m8 := m6.trans m7; obtain ⟨⟨i0, i1, i2, i3, i4, i5⟩, _, iz⟩ := Qa.mo m8; obtain ⟨⟨j0, j1, j2, j3, j4, j5⟩, _, jz⟩ := Qb.mo m8; obtain ⟨⟨g0, g1, g2, g3, g4, g5⟩, gf, gz⟩ := Qr.mo m8; have gf := fun o => gf o))
  all_goals
    go_wp2
    have M := M.trans m8
    refine bodyPost_ret (v := .tuple #[dz (sv (b != c) (n * m)) (s + t), .int .i64 0]) (by simp [results, Try.results39, go_sem, *]) rfl ?_
    refine ⟨rfl, ?_⟩
    repeat (first | with_reducible exact M | with_reducible exact Mo.refl _ | with_reducible apply Mo.drew | with_reducible apply Mo.drewN | with_reducible apply Mo.alloc | with_reducible refine Mo.setCell ?_ (by simp <;> omega) _)
set_option maxHeartbeats 4000000 in
theorem dmul_full (b c : Bool) (n m s t : Int) (w : World) (hn0 : 0 ≤ n) (hn : n < MM) (hm0 : 0 ≤ m) (hm : m < MM) (h1 : ck b n s = 0) (h2 : ck c m t = 0) (hb1 : 0 ≤ s ∧ s ≤ 18) (hb2 : 0 ≤ t ∧ t ≤ 18) (hs : sc (s + t) = true) (hr : MM ≤ n * m) :
    Calls Try.prog 39 #[dc b n s, dc c m t] w fun e w' => e = .returned (er 7) ∧ Mo w w' := by
  have hst : IntKind.i64.wrap (s + t) = s + t := by rw [IntKind.wrap_i64]; omega
  have bX := prod_bd hn0 hn hm0 hm
  have hmul : ∀ w, Calls Try.prog 87 #[nv n, nv m] w fun e w' => e = .returned (dx (n * m)) ∧ Mo w w' := fun w => mulDouble_x n m w hn0 hn hm0 hm
  have hfit : ∀ w, Calls Try.prog 77 #[.bool (!b == c), dx (n * m), .int .i64 (s + t)] w fun e w' => e = .returned (er 7) ∧ Mo w w' := fun w => by
    have e : (!b == c) = (b != c) := rfl
    rw [e]
    exact fit_full (b != c) (n * m) (s + t) w hr bX.2
  have HR : Hid _ := hr
  clear bX hr
  go_enter Try.func39, Try.ntmps39
  go_wp2_with fail
  refine (both_ok b n s c m t _ hn0 hn hm0 hm h1 h2).mono ?_
  rintro e' w1 ⟨rfl, hm1⟩
  have mz : Mo w w1 := Mo.trans (by repeat (first | with_reducible exact Mo.refl _ | with_reducible apply Mo.drew | with_reducible apply Mo.alloc)) hm1
  have M := mz
  have Qa : AtD w1 (w.heap.size) b n s := AtD.mo ⟨by simp [go_sem], fun o => by simp [go_sem], by simp <;> omega⟩ hm1
  have Qb : AtD w1 (w.heap.size + 1) c m t := AtD.mo ⟨by simp [go_sem], fun o => by simp [go_sem], by simp <;> omega⟩ hm1
  have Qr : AtD w1 (w.heap.size + 1 + 1) false 0 0 := AtD.mo ⟨by simp [go_sem, zl0, zl1, zl2, zl3], fun o => by simp [go_sem], by simp <;> omega⟩ hm1
  clear hm1 mz
  have Oa := Qa
  obtain ⟨⟨ca0, ca1, ca2, ca3, ca4, ca5⟩, fa, sa⟩ := Oa
  have fa := fun o => fa o
  have sxa : w.heap.size < w1.heap.size + 1 := by omega
  have sya : w.heap.size < w1.heap.size + 1 + 1 := by omega
  have Ob := Qb
  obtain ⟨⟨cb0, cb1, cb2, cb3, cb4, cb5⟩, fb, sb⟩ := Ob
  have fb := fun o => fb o
  have sxb : w.heap.size + 1 < w1.heap.size + 1 := by omega
  have syb : w.heap.size + 1 < w1.heap.size + 1 + 1 := by omega
  have Or := Qr
  obtain ⟨⟨cr0, cr1, cr2, cr3, cr4, cr5⟩, fr, sr⟩ := Or
  have fr := fun o => fr o
  have sxr : w.heap.size + 1 + 1 < w1.heap.size + 1 := by omega
  have syr : w.heap.size + 1 + 1 < w1.heap.size + 1 + 1 := by omega
  go_wp2_with fail
  refine (isScale_n (s + t) _).mono ?_
  rintro e' w2 ⟨rfl, hm2⟩
  have mz : Mo w1 w2 := Mo.trans (by repeat (first | with_reducible exact Mo.refl _ | with_reducible apply Mo.drew | with_reducible apply Mo.alloc)) hm2
  have zw1a := sa
  have zw1b := sb
  have zw1r := sr
  clear ca0 ca1 ca2 ca3 ca4 ca5 fa sa sxa sya cb0 cb1 cb2 cb3 cb4 cb5 fb sb sxb syb cr0 cr1 cr2 cr3 cr4 cr5 fr sr sxr syr
  have Qa := Qa.mo mz
  have Qb := Qb.mo mz
  have Qr := Qr.mo mz
  have M := M.trans mz
  clear hm2 mz
  have Oa := Qa
  obtain ⟨⟨ca0, ca1, ca2, ca3, ca4, ca5⟩, fa, sa⟩ := Oa
  have fa := fun o => fa o
  have sxa : w.heap.size < w2.heap.size + 1 := by omega
  have sya : w.heap.size < w2.heap.size + 1 + 1 := by omega
  have Ob := Qb
  obtain ⟨⟨cb0, cb1, cb2, cb3, cb4, cb5⟩, fb, sb⟩ := Ob
  have fb := fun o => fb o
  have sxb : w.heap.size + 1 < w2.heap.size + 1 := by omega
  have syb : w.heap.size + 1 < w2.heap.size + 1 + 1 := by omega
  have Or := Qr
  obtain ⟨⟨cr0, cr1, cr2, cr3, cr4, cr5⟩, fr, sr⟩ := Or
  have fr := fun o => fr o
  have sxr : w.heap.size + 1 + 1 < w2.heap.size + 1 := by omega
  have syr : w.heap.size + 1 + 1 < w2.heap.size + 1 + 1 := by omega
  go_upto_region 7 with fail
  go_region_held3 (fun w' => w'.cell? ⟨w.heap.size, 0, none⟩ = some (.bool b) ∧ w'.cell? ⟨w.heap.size, 1, none⟩ = some (.int .u64 (l0 n)) ∧ w'.cell? ⟨w.heap.size, 2, none⟩ = some (.int .u64 (l1 n)) ∧ w'.cell? ⟨w.heap.size, 3, none⟩ = some (.int .u64 (l2 n)) ∧ w'.cell? ⟨w.heap.size, 4, none⟩ = some (.int .u64 (l3 n)) ∧ w'.cell? ⟨w.heap.size + 1, 0, none⟩ = some (.bool c) ∧ w'.cell? ⟨w.heap.size + 1, 1, none⟩ = some (.int .u64 (l0 m)) ∧ w'.cell? ⟨w.heap.size + 1, 2, none⟩ = some (.int .u64 (l1 m)) ∧ w'.cell? ⟨w.heap.size + 1, 3, none⟩ = some (.int .u64 (l2 m)) ∧ w'.cell? ⟨w.heap.size + 1, 4, none⟩ = some (.int .u64 (l3 m))) (simp [go_sem, *])
    (first | (go_at_call 87; refine (hmul _).mono ?_; rintro e w6 ⟨rfl, hm6⟩; have m6 : Mo w2 w6 := Mo.trans (by repeat (first | with_reducible exact Mo.refl _ | with_reducible apply Mo.drew | with_reducible apply Mo.alloc)) hm6; obtain ⟨⟨e0, e1, e2, e3, e4, e5⟩, _, es⟩ := Qa.mo m6; obtain ⟨⟨f0, f1, f2, f3, f4, f5⟩, _, fs⟩ := Qb.mo m6) | (go_at_call 77; refine (hfit _).mono ?_; rintro e w7 ⟨rfl, hm7⟩; have m7 : Mo w6 w7 := Mo.trans (by repeat (first | with_reducible exact Mo.refl _ | with_reducible apply Mo.drew | with_reducible apply Mo.alloc)) hm7; have m8 := m6.trans m7; obtain ⟨⟨i0, i1, i2, i3, i4, i5⟩, _, iz⟩ := Qa.mo m8; obtain ⟨⟨j0, j1, j2, j3, j4, j5⟩, _, jz⟩ := Qb.mo m8; obtain ⟨⟨g0, g1, g2, g3, g4, g5⟩, gf, gz⟩ := Qr.mo m8; have gf := fun o => gf o))
  all_goals
    go_wp2
    have M := M.trans m8
    refine bodyPost_ret (v := er 7) (by simp [results, Try.results39, go_sem, *]) rfl ?_
    refine ⟨rfl, ?_⟩
    repeat (first | with_reducible exact M | with_reducible exact Mo.refl _ | with_reducible apply Mo.drew | with_reducible apply Mo.drewN | with_reducible apply Mo.alloc | with_reducible refine Mo.setCell ?_ (by simp <;> omega) _)
set_option maxHeartbeats 4000000 in
theorem dsub_no (b c : Bool) (n m s t : Int) (w : World) (_hn0 : 0 ≤ n) (_hn : n < MM) (hm0 : 0 ≤ m) (hm : m < MM) (h : ck c m t ≠ 0) :
    Calls Try.prog 37 #[dc b n s, dc c m t] w fun e w' => e = .returned (er 20) ∧ Mo w w' := by
  go_enter Try.func37, Try.ntmps37
  go_wp2_with fail
  refine (neg_no c m t _ hm0 hm h).mono ?_
  rintro e' w1 ⟨rfl, hm1⟩
  have mz : Mo w w1 := Mo.trans (by repeat (first | with_reducible exact Mo.refl _ | with_reducible apply Mo.drew | with_reducible apply Mo.alloc)) hm1
  have M := mz
  have Qa : AtD w1 (w.heap.size) b n s := AtD.mo ⟨by simp [go_sem], fun o => by simp [go_sem], by simp <;> omega⟩ hm1
  have Qb : AtD w1 (w.heap.size + 1) c m t := AtD.mo ⟨by simp [go_sem], fun o => by simp [go_sem], by simp <;> omega⟩ hm1
  have Qr : AtD w1 (w.heap.size + 1 + 1) false 0 0 := AtD.mo ⟨by simp [go_sem, zl0, zl1, zl2, zl3], fun o => by simp [go_sem], by simp <;> omega⟩ hm1
  clear hm1 mz
  have Oa := Qa
  obtain ⟨⟨ca0, ca1, ca2, ca3, ca4, ca5⟩, fa, sa⟩ := Oa
  have fa := fun o => fa o
  have sxa : w.heap.size < w1.heap.size + 1 := by omega
  have sya : w.heap.size < w1.heap.size + 1 + 1 := by omega
  have Ob := Qb
  obtain ⟨⟨cb0, cb1, cb2, cb3, cb4, cb5⟩, fb, sb⟩ := Ob
  have fb := fun o => fb o
  have sxb : w.heap.size + 1 < w1.heap.size + 1 := by omega
  have syb : w.heap.size + 1 < w1.heap.size + 1 + 1 := by omega
  have Or := Qr
  obtain ⟨⟨cr0, cr1, cr2, cr3, cr4, cr5⟩, fr, sr⟩ := Or
  have fr := fun o => fr o
  have sxr : w.heap.size + 1 + 1 < w1.heap.size + 1 := by omega
  have syr : w.heap.size + 1 + 1 < w1.heap.size + 1 + 1 := by omega
  have a : Mo w1 ((w1).alloc (.cells #[.bool false, .int .u64 0, .int .u64 0, .int .u64 0, .int .u64 0, .int .i64 0] 40)) := by repeat (first | with_reducible exact Mo.refl _ | with_reducible apply Mo.alloc)
  have zW0a := sa
  have zW0b := sb
  have zW0r := sr
  clear ca0 ca1 ca2 ca3 ca4 ca5 fa sa sxa sya cb0 cb1 cb2 cb3 cb4 cb5 fb sb sxb syb cr0 cr1 cr2 cr3 cr4 cr5 fr sr sxr syr
  have Qa := Qa.mo a
  have Qb := Qb.mo a
  have Qr := Qr.mo a
  have M := M.trans a
  clear a
  go_upto_region 2 with fail
  generalize ((w1).alloc (.cells #[.bool false, .int .u64 0, .int .u64 0, .int .u64 0, .int .u64 0, .int .i64 0] 40)) = W0 at *
  have Oa := Qa
  obtain ⟨⟨ca0, ca1, ca2, ca3, ca4, ca5⟩, fa, sa⟩ := Oa
  have fa := fun o => fa o
  have sxa : w.heap.size < W0.heap.size + 1 := by omega
  have sya : w.heap.size < W0.heap.size + 1 + 1 := by omega
  have Ob := Qb
  obtain ⟨⟨cb0, cb1, cb2, cb3, cb4, cb5⟩, fb, sb⟩ := Ob
  have fb := fun o => fb o
  have sxb : w.heap.size + 1 < W0.heap.size + 1 := by omega
  have syb : w.heap.size + 1 < W0.heap.size + 1 + 1 := by omega
  have Or := Qr
  obtain ⟨⟨cr0, cr1, cr2, cr3, cr4, cr5⟩, fr, sr⟩ := Or
  have fr := fun o => fr o
  have sxr : w.heap.size + 1 + 1 < W0.heap.size + 1 := by omega
  have syr : w.heap.size + 1 + 1 < W0.heap.size + 1 + 1 := by omega
  go_wp2
  refine bodyPost_ret (v := er 20) (by simp [results, Try.results37, go_sem, *]) rfl ?_
  refine ⟨rfl, ?_⟩
  repeat (first | with_reducible exact M | with_reducible exact Mo.refl _ | with_reducible apply Mo.drew | with_reducible apply Mo.drewN | with_reducible apply Mo.alloc | with_reducible refine Mo.setCell ?_ (by simp <;> omega) _)
set_option maxHeartbeats 4000000 in
theorem dsub_ok (b c : Bool) (n m s t : Int) (w : World) (_hn0 : 0 ≤ n) (_hn : n < MM) (hm0 : 0 ≤ m) (hm : m < MM) (h : ck c m t = 0) (V S : Int) (hadd : ∀ w, Calls Try.prog 35 #[dc b n s, dc (!c && !decide (m = 0)) m t] w fun e' w' => e' = .returned (.tuple #[dz V S, .int .i64 0]) ∧ Mo w w') :
    Calls Try.prog 37 #[dc b n s, dc c m t] w fun e' w' => e' = .returned (.tuple #[dz V S, .int .i64 0]) ∧ Mo w w' := by
  obtain ⟨d, hd⟩ : ∃ d, d = (!c && !decide (m = 0)) := ⟨_, rfl⟩
  have hneg : ∀ w, Calls Try.prog 47 #[dc c m t] w fun e w' => e = .returned (.tuple #[dc d m t, .int .i64 0]) ∧ Mo w w' := fun w => by rw [hd]; exact neg_ok c m t w hm0 hm h
  rw [← hd] at hadd
  clear hd
  go_enter Try.func37, Try.ntmps37
  go_wp2_with fail
  refine (hneg _).mono ?_
  rintro e' w1 ⟨rfl, hm1⟩
  have mz : Mo w w1 := Mo.trans (by repeat (first | with_reducible exact Mo.refl _ | with_reducible apply Mo.drew | with_reducible apply Mo.alloc)) hm1
  have M := mz
  have Qa : AtD w1 (w.heap.size) b n s := AtD.mo ⟨by simp [go_sem], fun o => by simp [go_sem], by simp <;> omega⟩ hm1
  have Qb : AtD w1 (w.heap.size + 1) c m t := AtD.mo ⟨by simp [go_sem], fun o => by simp [go_sem], by simp <;> omega⟩ hm1
  have Qr : AtD w1 (w.heap.size + 1 + 1) false 0 0 := AtD.mo ⟨by simp [go_sem, zl0, zl1, zl2, zl3], fun o => by simp [go_sem], by simp <;> omega⟩ hm1
  clear hm1 mz
  have Oa := Qa
  obtain ⟨⟨ca0, ca1, ca2, ca3, ca4, ca5⟩, fa, sa⟩ := Oa
  have fa := fun o => fa o
  have sxa : w.heap.size < w1.heap.size + 1 := by omega
  have sya : w.heap.size < w1.heap.size + 1 + 1 := by omega
  have Ob := Qb
  obtain ⟨⟨cb0, cb1, cb2, cb3, cb4, cb5⟩, fb, sb⟩ := Ob
  have fb := fun o => fb o
  have sxb : w.heap.size + 1 < w1.heap.size + 1 := by omega
  have syb : w.heap.size + 1 < w1.heap.size + 1 + 1 := by omega
  have Or := Qr
  obtain ⟨⟨cr0, cr1, cr2, cr3, cr4, cr5⟩, fr, sr⟩ := Or
  have fr := fun o => fr o
  have sxr : w.heap.size + 1 + 1 < w1.heap.size + 1 := by omega
  have syr : w.heap.size + 1 + 1 < w1.heap.size + 1 + 1 := by omega
  go_wp2_with fail
  refine (hadd _).mono ?_
  rintro e' w2 ⟨rfl, hm2⟩
  have mz : Mo w1 w2 := Mo.trans (by repeat (first | with_reducible exact Mo.refl _ | with_reducible apply Mo.drew | with_reducible apply Mo.alloc)) hm2
  have zw1a := sa
  have zw1b := sb
  have zw1r := sr
  clear ca0 ca1 ca2 ca3 ca4 ca5 fa sa sxa sya cb0 cb1 cb2 cb3 cb4 cb5 fb sb sxb syb cr0 cr1 cr2 cr3 cr4 cr5 fr sr sxr syr
  have Qa := Qa.mo mz
  have Qb := Qb.mo mz
  have Qr := Qr.mo mz
  have M := M.trans mz
  clear hm2 mz
  have Oa := Qa
  obtain ⟨⟨ca0, ca1, ca2, ca3, ca4, ca5⟩, fa, sa⟩ := Oa
  have fa := fun o => fa o
  have sxa : w.heap.size < w2.heap.size + 1 := by omega
  have sya : w.heap.size < w2.heap.size + 1 + 1 := by omega
  have Ob := Qb
  obtain ⟨⟨cb0, cb1, cb2, cb3, cb4, cb5⟩, fb, sb⟩ := Ob
  have fb := fun o => fb o
  have sxb : w.heap.size + 1 < w2.heap.size + 1 := by omega
  have syb : w.heap.size + 1 < w2.heap.size + 1 + 1 := by omega
  have Or := Qr
  obtain ⟨⟨cr0, cr1, cr2, cr3, cr4, cr5⟩, fr, sr⟩ := Or
  have fr := fun o => fr o
  have sxr : w.heap.size + 1 + 1 < w2.heap.size + 1 := by omega
  have syr : w.heap.size + 1 + 1 < w2.heap.size + 1 + 1 := by omega
  go_wp2
  refine bodyPost_ret (v := .tuple #[dz V S, .int .i64 0]) (by simp [results, Try.results37, go_sem, *]) rfl ?_
  refine ⟨rfl, ?_⟩
  repeat (first | with_reducible exact M | with_reducible exact Mo.refl _ | with_reducible apply Mo.drew | with_reducible apply Mo.drewN | with_reducible apply Mo.alloc | with_reducible refine Mo.setCell ?_ (by simp <;> omega) _)
set_option maxHeartbeats 4000000 in
theorem dsub_er (b c : Bool) (n m s t : Int) (w : World) (_hn0 : 0 ≤ n) (_hn : n < MM) (hm0 : 0 ≤ m) (hm : m < MM) (h : ck c m t = 0) (e : Int) (hadd : ∀ w, Calls Try.prog 35 #[dc b n s, dc (!c && !decide (m = 0)) m t] w fun e' w' => e' = .returned (er e) ∧ Mo w w') :
    Calls Try.prog 37 #[dc b n s, dc c m t] w fun e' w' => e' = .returned (er e) ∧ Mo w w' := by
  obtain ⟨d, hd⟩ : ∃ d, d = (!c && !decide (m = 0)) := ⟨_, rfl⟩
  have hneg : ∀ w, Calls Try.prog 47 #[dc c m t] w fun e w' => e = .returned (.tuple #[dc d m t, .int .i64 0]) ∧ Mo w w' := fun w => by rw [hd]; exact neg_ok c m t w hm0 hm h
  rw [← hd] at hadd
  clear hd
  go_enter Try.func37, Try.ntmps37
  go_wp2_with fail
  refine (hneg _).mono ?_
  rintro e' w1 ⟨rfl, hm1⟩
  have mz : Mo w w1 := Mo.trans (by repeat (first | with_reducible exact Mo.refl _ | with_reducible apply Mo.drew | with_reducible apply Mo.alloc)) hm1
  have M := mz
  have Qa : AtD w1 (w.heap.size) b n s := AtD.mo ⟨by simp [go_sem], fun o => by simp [go_sem], by simp <;> omega⟩ hm1
  have Qb : AtD w1 (w.heap.size + 1) c m t := AtD.mo ⟨by simp [go_sem], fun o => by simp [go_sem], by simp <;> omega⟩ hm1
  have Qr : AtD w1 (w.heap.size + 1 + 1) false 0 0 := AtD.mo ⟨by simp [go_sem, zl0, zl1, zl2, zl3], fun o => by simp [go_sem], by simp <;> omega⟩ hm1
  clear hm1 mz
  have Oa := Qa
  obtain ⟨⟨ca0, ca1, ca2, ca3, ca4, ca5⟩, fa, sa⟩ := Oa
  have fa := fun o => fa o
  have sxa : w.heap.size < w1.heap.size + 1 := by omega
  have sya : w.heap.size < w1.heap.size + 1 + 1 := by omega
  have Ob := Qb
  obtain ⟨⟨cb0, cb1, cb2, cb3, cb4, cb5⟩, fb, sb⟩ := Ob
  have fb := fun o => fb o
  have sxb : w.heap.size + 1 < w1.heap.size + 1 := by omega
  have syb : w.heap.size + 1 < w1.heap.size + 1 + 1 := by omega
  have Or := Qr
  obtain ⟨⟨cr0, cr1, cr2, cr3, cr4, cr5⟩, fr, sr⟩ := Or
  have fr := fun o => fr o
  have sxr : w.heap.size + 1 + 1 < w1.heap.size + 1 := by omega
  have syr : w.heap.size + 1 + 1 < w1.heap.size + 1 + 1 := by omega
  go_wp2_with fail
  refine (hadd _).mono ?_
  rintro e' w2 ⟨rfl, hm2⟩
  have mz : Mo w1 w2 := Mo.trans (by repeat (first | with_reducible exact Mo.refl _ | with_reducible apply Mo.drew | with_reducible apply Mo.alloc)) hm2
  have zw1a := sa
  have zw1b := sb
  have zw1r := sr
  clear ca0 ca1 ca2 ca3 ca4 ca5 fa sa sxa sya cb0 cb1 cb2 cb3 cb4 cb5 fb sb sxb syb cr0 cr1 cr2 cr3 cr4 cr5 fr sr sxr syr
  have Qa := Qa.mo mz
  have Qb := Qb.mo mz
  have Qr := Qr.mo mz
  have M := M.trans mz
  clear hm2 mz
  have Oa := Qa
  obtain ⟨⟨ca0, ca1, ca2, ca3, ca4, ca5⟩, fa, sa⟩ := Oa
  have fa := fun o => fa o
  have sxa : w.heap.size < w2.heap.size + 1 := by omega
  have sya : w.heap.size < w2.heap.size + 1 + 1 := by omega
  have Ob := Qb
  obtain ⟨⟨cb0, cb1, cb2, cb3, cb4, cb5⟩, fb, sb⟩ := Ob
  have fb := fun o => fb o
  have sxb : w.heap.size + 1 < w2.heap.size + 1 := by omega
  have syb : w.heap.size + 1 < w2.heap.size + 1 + 1 := by omega
  have Or := Qr
  obtain ⟨⟨cr0, cr1, cr2, cr3, cr4, cr5⟩, fr, sr⟩ := Or
  have fr := fun o => fr o
  have sxr : w.heap.size + 1 + 1 < w2.heap.size + 1 := by omega
  have syr : w.heap.size + 1 + 1 < w2.heap.size + 1 + 1 := by omega
  go_wp2
  refine bodyPost_ret (v := er e) (by simp [results, Try.results37, go_sem, *]) rfl ?_
  refine ⟨rfl, ?_⟩
  repeat (first | with_reducible exact M | with_reducible exact Mo.refl _ | with_reducible apply Mo.drew | with_reducible apply Mo.drewN | with_reducible apply Mo.alloc | with_reducible refine Mo.setCell ?_ (by simp <;> omega) _)
end Go.Proofs.Ytoiiekmkcpcbgaa
/-
  decimal.MulTo where nothing is cut off: the walk.
-/
namespace Go.Proofs.Ytoiiekmkcpcbgaa
open Go.RowKit
set_option maxHeartbeats 8000000 in
theorem mulTo_over (b c : Bool) (n m s t S p : Int) (w : World) (hn0 : 0 ≤ n) (hn : n < MM) (hm0 : 0 ≤ m) (hm : m < MM) (h1 : ck b n s = 0) (h2 : ck c m t = 0) (hS : sc S = true) (hp1 : 1 ≤ p) (hp5 : p ≤ 5) (g : Nat) (hf : s + t - S = -(g : Int)) (hg : g ≤ 18) (hs : 0 ≤ s ∧ s ≤ 18) (ht : 0 ≤ t ∧ t ≤ 18) (hr : MM ≤ n * m) :
    Calls Try.prog 41 #[dc b n s, dc c m t, .int .i64 S, .int .i64 p] w fun e w' => e = .returned (er 7) ∧ Mo w w' := by
  have bX := prod_bd hn0 hn hm0 hm
  have q4 := eq4
  have hst : IntKind.i64.wrap (s + t) = s + t := by rw [IntKind.wrap_i64]; omega
  have hff : IntKind.i64.wrap (-(g : Int)) = -(g : Int) := by rw [IntKind.wrap_i64]; omega
  have hgg : IntKind.i64.wrap (g : Int) = (g : Int) := by rw [IntKind.wrap_i64]; omega
  have hd : decide (-(g : Int) > 0) = false := decide_eq_false (by omega)
  have HF : Hid _ := hf
  have z4 : (l0 (n * m / MM) == 0 && (l1 (n * m / MM) == 0 && (l2 (n * m / MM) == 0 && l3 (n * m / MM) == 0))) = false := by
    have pp : (0 : Int) < MM := by decide
    rw [zero4 (Int.ediv_nonneg bX.1 (by omega)) (Int.ediv_lt_of_lt_mul pp bX.2)]
    refine decide_eq_false fun h => ?_
    have := Int.lt_mul_of_ediv_lt pp (show n * m / MM < 1 by omega)
    omega
  clear bX hf hr
  have hsz := dwa_size
  have rst := st81
  have rn1 := there_new
  have rc := cell_sc
  go_enter Try.func41, Try.ntmps41
  go_wp2_with fail
  refine (both_ok b n s c m t _ hn0 hn hm0 hm h1 h2).mono ?_
  rintro e w1 ⟨rfl, hm1⟩
  have mz : Mo w w1 := Mo.trans (by repeat (first | with_reducible exact Mo.refl _ | with_reducible apply Mo.drew | with_reducible apply Mo.alloc)) hm1
  have M := mz
  have Qa : AtD w1 (w.heap.size) b n s := AtD.mo ⟨by simp [go_sem], fun o => by simp [go_sem], by simp <;> omega⟩ hm1
  have Qb : AtD w1 (w.heap.size + 1) c m t := AtD.mo ⟨by simp [go_sem], fun o => by simp [go_sem], by simp <;> omega⟩ hm1
  have Qr : AtD w1 (w.heap.size + 1 + 1) false 0 0 := AtD.mo ⟨by simp [go_sem, zl0, zl1, zl2, zl3], fun o => by simp [go_sem], by simp <;> omega⟩ hm1
  clear hm1 mz
  have Oa := Qa
  obtain ⟨⟨ca0, ca1, ca2, ca3, ca4, ca5⟩, fa, sa⟩ := Oa
  have fa := fun o => fa o
  have sxa : w.heap.size < w1.heap.size + 1 := by omega
  have sya : w.heap.size < w1.heap.size + 1 + 1 := by omega
  have Ob := Qb
  obtain ⟨⟨cb0, cb1, cb2, cb3, cb4, cb5⟩, fb, sb⟩ := Ob
  have fb := fun o => fb o
  have sxb : w.heap.size + 1 < w1.heap.size + 1 := by omega
  have syb : w.heap.size + 1 < w1.heap.size + 1 + 1 := by omega
  have Or := Qr
  obtain ⟨⟨cr0, cr1, cr2, cr3, cr4, cr5⟩, fr, sr⟩ := Or
  have fr := fun o => fr o
  have sxr : w.heap.size + 1 + 1 < w1.heap.size + 1 := by omega
  have syr : w.heap.size + 1 + 1 < w1.heap.size + 1 + 1 := by omega
  go_wp2_with fail
  refine (cr_ok S p _ hS hp1 hp5).mono ?_
  rintro e w2 ⟨rfl, hm2⟩
  have mz : Mo w1 w2 := Mo.trans (by repeat (first | with_reducible exact Mo.refl _ | with_reducible apply Mo.drew | with_reducible apply Mo.alloc)) hm2
  have zw1a := sa
  have zw1b := sb
  have zw1r := sr
  clear ca0 ca1 ca2 ca3 ca4 ca5 fa sa sxa sya cb0 cb1 cb2 cb3 cb4 cb5 fb sb sxb syb cr0 cr1 cr2 cr3 cr4 cr5 fr sr sxr syr
  have Qa := Qa.mo mz
  have Qb := Qb.mo mz
  have Qr := Qr.mo mz
  have M := M.trans mz
  clear hm2 mz
  have Oa := Qa
  obtain ⟨⟨ca0, ca1, ca2, ca3, ca4, ca5⟩, fa, sa⟩ := Oa
  have fa := fun o => fa o
  have sxa : w.heap.size < w2.heap.size + 1 := by omega
  have sya : w.heap.size < w2.heap.size + 1 + 1 := by omega
  have Ob := Qb
  obtain ⟨⟨cb0, cb1, cb2, cb3, cb4, cb5⟩, fb, sb⟩ := Ob
  have fb := fun o => fb o
  have sxb : w.heap.size + 1 < w2.heap.size + 1 := by omega
  have syb : w.heap.size + 1 < w2.heap.size + 1 + 1 := by omega
  have Or := Qr
  obtain ⟨⟨cr0, cr1, cr2, cr3, cr4, cr5⟩, fr, sr⟩ := Or
  have fr := fun o => fr o
  have sxr : w.heap.size + 1 + 1 < w2.heap.size + 1 := by omega
  have syr : w.heap.size + 1 + 1 < w2.heap.size + 1 + 1 := by omega
  go_upto_region 7 with fail
  have nw2a : ¬ w.heap.size = w2.heap.size := (by omega)
  have nw2b : ¬ w.heap.size + 1 = w2.heap.size := (by omega)
  go_cut [12, 13] from 29 to 38 (fun s12 s13 wx => ∃ k, s12 = .bool (b != c) ∧ s13 = .pointer (some ⟨k, 0, none⟩) ∧ w.heap.size + 1 + 1 < k ∧ Mo w wx ∧ AtD wx w.heap.size b n s ∧ AtD wx (w.heap.size + 1) c m t ∧ AtD wx (w.heap.size + 1 + 1) false 0 0 ∧ AtX wx k (n * m))
  case first =>
    go_region_held3 (fun w' => w'.cell? ⟨w.heap.size, 0, none⟩ = some (.bool b) ∧ w'.cell? ⟨w.heap.size, 1, none⟩ = some (.int .u64 (l0 n)) ∧ w'.cell? ⟨w.heap.size, 2, none⟩ = some (.int .u64 (l1 n)) ∧ w'.cell? ⟨w.heap.size, 3, none⟩ = some (.int .u64 (l2 n)) ∧ w'.cell? ⟨w.heap.size, 4, none⟩ = some (.int .u64 (l3 n)) ∧ w'.cell? ⟨w.heap.size + 1, 0, none⟩ = some (.bool c) ∧ w'.cell? ⟨w.heap.size + 1, 1, none⟩ = some (.int .u64 (l0 m)) ∧ w'.cell? ⟨w.heap.size + 1, 2, none⟩ = some (.int .u64 (l1 m)) ∧ w'.cell? ⟨w.heap.size + 1, 3, none⟩ = some (.int .u64 (l2 m)) ∧ w'.cell? ⟨w.heap.size + 1, 4, none⟩ = some (.int .u64 (l3 m))) (simp [go_sem, *])
      (first | (go_at_call 87; refine (mulDouble_x n m _ hn0 hn hm0 hm).mono ?_; rintro e w3 ⟨rfl, hm3⟩; have m3 : Mo w2 w3 := Mo.trans (by repeat (first | with_reducible exact Mo.refl _ | with_reducible apply Mo.drew | with_reducible apply Mo.alloc)) hm3; obtain ⟨⟨e0, e1, e2, e3, e4, e5⟩, _, es⟩ := Qa.mo m3; obtain ⟨⟨f0, f1, f2, f3, f4, f5⟩, _, fs⟩ := Qb.mo m3; have nw3a : ¬ w.heap.size = w3.heap.size := (by omega); have nw3b : ¬ w.heap.size + 1 = w3.heap.size := (by omega); (first | (with_reducible have pq := T81.mk1 hm3; obtain ⟨p1, pz⟩ := pq) | (with_reducible have pq := T81.mk2 hm3; obtain ⟨p1, pz⟩ := pq) | skip)))
    all_goals
      go_wp2
      go_meet
      case rel =>
        have zr := (Qr.mo m3).2.2
        refine ⟨_, by cases b <;> cases c <;> rfl, rfl, by omega, ?_, ?_, ?_, ?_, ?_⟩
        · have MM1 := M.trans m3
          first | with_reducible exact Mo.setCells (by omega) _ _ _ MM1 | with_reducible exact Mo.setCells (by omega) _ _ _ (MM1.alloc _ _)
        · have q := Qa.mo m3
          first | with_reducible exact q.other (by omega) _ | with_reducible exact (q.mo ((Mo.refl _).alloc _ _)).other (by omega) _
        · have q := Qb.mo m3
          first | with_reducible exact q.other (by omega) _ | with_reducible exact (q.mo ((Mo.refl _).alloc _ _)).other (by omega) _
        · have q := Qr.mo m3
          first | with_reducible exact q.other (by omega) _ | with_reducible exact (q.mo ((Mo.refl _).alloc _ _)).other (by omega) _
        · first | with_reducible exact AtX.same _ p1 (by omega) | exact AtX.same _ (there_new _) (by simp)
  case rest =>
    clear ca0 ca1 ca2 ca3 ca4 ca5 fa sa sxa sya cb0 cb1 cb2 cb3 cb4 cb5 fb sb sxb syb cr0 cr1 cr2 cr3 cr4 cr5 fr sr sxr syr Qa Qb Qr M nw2a nw2b rst rn1 rc
    obtain ⟨k, rfl, rfl, hk, M, Qa, Qb, Qr, Qx⟩ := hcut
    obtain ⟨X, hX⟩ : ∃ X, X = n * m := ⟨_, rfl⟩
    rw [← hX] at Qx
    have HX : Hid _ := hX
    clear hX
    generalize hnb : (b != c) = nb at *
    have HN : Hid _ := hnb
    clear hnb
    have xl := ld81 wc k X Qx.1
    have xc := Qx.cells
    obtain ⟨x0, x1, x2, x3, x4, x5, x6, x7⟩ := xc
    have Oa := Qa
    obtain ⟨⟨ca0, ca1, ca2, ca3, ca4, ca5⟩, fa, sa⟩ := Oa
    have fa := fun o => fa o
    have sxa : w.heap.size < wc.heap.size + 1 := by omega
    have sya : w.heap.size < wc.heap.size + 1 + 1 := by omega
    have Ob := Qb
    obtain ⟨⟨cb0, cb1, cb2, cb3, cb4, cb5⟩, fb, sb⟩ := Ob
    have fb := fun o => fb o
    have sxb : w.heap.size + 1 < wc.heap.size + 1 := by omega
    have syb : w.heap.size + 1 < wc.heap.size + 1 + 1 := by omega
    have Or := Qr
    obtain ⟨⟨cr0, cr1, cr2, cr3, cr4, cr5⟩, fr, sr⟩ := Or
    have fr := fun o => fr o
    have sxr : w.heap.size + 1 + 1 < wc.heap.size + 1 := by omega
    have syr : w.heap.size + 1 + 1 < wc.heap.size + 1 + 1 := by omega
    have hf := HF.out
    rw [← HX.out] at z4
    go_wp2
    refine bodyPost_ret (v := er 7) (by simp [results, Try.results41, go_sem, *]) rfl ?_
    refine ⟨rfl, ?_⟩
    repeat (first | with_reducible exact M | with_reducible exact Mo.refl _ | with_reducible apply Mo.drew | with_reducible apply Mo.drewN | with_reducible apply Mo.alloc | with_reducible refine Mo.setCell ?_ (by simp <;> omega) _)
set_option maxHeartbeats 8000000 in
theorem mulTo_up_room (b c : Bool) (n m s t S p : Int) (w : World) (hn0 : 0 ≤ n) (hn : n < MM) (hm0 : 0 ≤ m) (hm : m < MM) (h1 : ck b n s = 0) (h2 : ck c m t = 0) (hS : sc S = true) (hp1 : 1 ≤ p) (hp5 : p ≤ 5) (g : Nat) (hf : s + t - S = -(g : Int)) (hg : g ≤ 18) (hs : 0 ≤ s ∧ s ≤ 18) (ht : 0 ≤ t ∧ t ≤ 18) (hx : n * m < MM) (hr : n * m * 10 ^ g < MM) :
    Calls Try.prog 41 #[dc b n s, dc c m t, .int .i64 S, .int .i64 p] w fun e w' => e = .returned (.tuple #[dz (sv (b != c) (n * m * 10 ^ g)) S, .int .i64 0]) ∧ Mo w w' := by
  have bX := prod_bd hn0 hn hm0 hm
  have q4 := eq4
  have hst : IntKind.i64.wrap (s + t) = s + t := by rw [IntKind.wrap_i64]; omega
  have hff : IntKind.i64.wrap (-(g : Int)) = -(g : Int) := by rw [IntKind.wrap_i64]; omega
  have hgg : IntKind.i64.wrap (g : Int) = (g : Int) := by rw [IntKind.wrap_i64]; omega
  have hd : decide (-(g : Int) > 0) = false := decide_eq_false (by omega)
  have HF : Hid _ := hf
  have z4 : (l0 (n * m / MM) == 0 && (l1 (n * m / MM) == 0 && (l2 (n * m / MM) == 0 && l3 (n * m / MM) == 0))) = true := by
    rw [Int.ediv_eq_zero_of_lt bX.1 hx]; rfl
  have hg77 : g ≤ 77 := by omega
  have tb := ten_bd g hg77
  have hten : ∀ w, Calls Try.prog 74 #[.int .i64 (g : Int)] w fun e w' => e = .returned (nv (10 ^ g)) ∧ Mo w w' := fun w => dten_n g w hg77
  have hmul : ∀ w, Calls Try.prog 87 #[nv (n * m), nv (10 ^ g)] w fun e w' => e = .returned (dx (n * m * 10 ^ g)) ∧ Mo w w' := fun w => mulDouble_x (n * m) (10 ^ g) w bX.1 hx (by omega) tb.2
  have hfit : ∀ w, Calls Try.prog 77 #[.bool (b != c), dx (n * m * 10 ^ g), .int .i64 S] w fun e w' => e = .returned (.tuple #[dz (sv (b != c) (n * m * 10 ^ g)) S, .int .i64 0]) ∧ Mo w w' := fun w => fit_room (b != c) (n * m * 10 ^ g) S w (Int.mul_nonneg bX.1 (by omega)) hr
  clear bX hf hr hx tb
  obtain ⟨T, hT⟩ : ∃ T : Int, T = 10 ^ g := ⟨_, rfl⟩
  rw [← hT] at hten hmul hfit
  have HT : Hid _ := hT
  clear hT
  have hsz := dwa_size
  have rst := st81
  have rn1 := there_new
  have rc := cell_sc
  go_enter Try.func41, Try.ntmps41
  go_wp2_with fail
  refine (both_ok b n s c m t _ hn0 hn hm0 hm h1 h2).mono ?_
  rintro e w1 ⟨rfl, hm1⟩
  have mz : Mo w w1 := Mo.trans (by repeat (first | with_reducible exact Mo.refl _ | with_reducible apply Mo.drew | with_reducible apply Mo.alloc)) hm1
  have M := mz
  have Qa : AtD w1 (w.heap.size) b n s := AtD.mo ⟨by simp [go_sem], fun o => by simp [go_sem], by simp <;> omega⟩ hm1
  have Qb : AtD w1 (w.heap.size + 1) c m t := AtD.mo ⟨by simp [go_sem], fun o => by simp [go_sem], by simp <;> omega⟩ hm1
  have Qr : AtD w1 (w.heap.size + 1 + 1) false 0 0 := AtD.mo ⟨by simp [go_sem, zl0, zl1, zl2, zl3], fun o => by simp [go_sem], by simp <;> omega⟩ hm1
  clear hm1 mz
  have Oa := Qa
  obtain ⟨⟨ca0, ca1, ca2, ca3, ca4, ca5⟩, fa, sa⟩ := Oa
  have fa := fun o => fa o
  have sxa : w.heap.size < w1.heap.size + 1 := by omega
  have sya : w.heap.size < w1.heap.size + 1 + 1 := by omega
  have Ob := Qb
  obtain ⟨⟨cb0, cb1, cb2, cb3, cb4, cb5⟩, fb, sb⟩ := Ob
  have fb := fun o => fb o
  have sxb : w.heap.size + 1 < w1.heap.size + 1 := by omega
  have syb : w.heap.size + 1 < w1.heap.size + 1 + 1 := by omega
  have Or := Qr
  obtain ⟨⟨cr0, cr1, cr2, cr3, cr4, cr5⟩, fr, sr⟩ := Or
  have fr := fun o => fr o
  have sxr : w.heap.size + 1 + 1 < w1.heap.size + 1 := by omega
  have syr : w.heap.size + 1 + 1 < w1.heap.size + 1 + 1 := by omega
  go_wp2_with fail
  refine (cr_ok S p _ hS hp1 hp5).mono ?_
  rintro e w2 ⟨rfl, hm2⟩
  have mz : Mo w1 w2 := Mo.trans (by repeat (first | with_reducible exact Mo.refl _ | with_reducible apply Mo.drew | with_reducible apply Mo.alloc)) hm2
  have zw1a := sa
  have zw1b := sb
  have zw1r := sr
  clear ca0 ca1 ca2 ca3 ca4 ca5 fa sa sxa sya cb0 cb1 cb2 cb3 cb4 cb5 fb sb sxb syb cr0 cr1 cr2 cr3 cr4 cr5 fr sr sxr syr
  have Qa := Qa.mo mz
  have Qb := Qb.mo mz
  have Qr := Qr.mo mz
  have M := M.trans mz
  clear hm2 mz
  have Oa := Qa
  obtain ⟨⟨ca0, ca1, ca2, ca3, ca4, ca5⟩, fa, sa⟩ := Oa
  have fa := fun o => fa o
  have sxa : w.heap.size < w2.heap.size + 1 := by omega
  have sya : w.heap.size < w2.heap.size + 1 + 1 := by omega
  have Ob := Qb
  obtain ⟨⟨cb0, cb1, cb2, cb3, cb4, cb5⟩, fb, sb⟩ := Ob
  have fb := fun o => fb o
  have sxb : w.heap.size + 1 < w2.heap.size + 1 := by omega
  have syb : w.heap.size + 1 < w2.heap.size + 1 + 1 := by omega
  have Or := Qr
  obtain ⟨⟨cr0, cr1, cr2, cr3, cr4, cr5⟩, fr, sr⟩ := Or
  have fr := fun o => fr o
  have sxr : w.heap.size + 1 + 1 < w2.heap.size + 1 := by omega
  have syr : w.heap.size + 1 + 1 < w2.heap.size + 1 + 1 := by omega
  go_upto_region 7 with fail
  have nw2a : ¬ w.heap.size = w2.heap.size := (by omega)
  have nw2b : ¬ w.heap.size + 1 = w2.heap.size := (by omega)
  go_cut [12, 13] from 29 to 38 (fun s12 s13 wx => ∃ k, s12 = .bool (b != c) ∧ s13 = .pointer (some ⟨k, 0, none⟩) ∧ w.heap.size + 1 + 1 < k ∧ Mo w wx ∧ AtD wx w.heap.size b n s ∧ AtD wx (w.heap.size + 1) c m t ∧ AtD wx (w.heap.size + 1 + 1) false 0 0 ∧ AtX wx k (n * m))
  case first =>
    go_region_held3 (fun w' => w'.cell? ⟨w.heap.size, 0, none⟩ = some (.bool b) ∧ w'.cell? ⟨w.heap.size, 1, none⟩ = some (.int .u64 (l0 n)) ∧ w'.cell? ⟨w.heap.size, 2, none⟩ = some (.int .u64 (l1 n)) ∧ w'.cell? ⟨w.heap.size, 3, none⟩ = some (.int .u64 (l2 n)) ∧ w'.cell? ⟨w.heap.size, 4, none⟩ = some (.int .u64 (l3 n)) ∧ w'.cell? ⟨w.heap.size + 1, 0, none⟩ = some (.bool c) ∧ w'.cell? ⟨w.heap.size + 1, 1, none⟩ = some (.int .u64 (l0 m)) ∧ w'.cell? ⟨w.heap.size + 1, 2, none⟩ = some (.int .u64 (l1 m)) ∧ w'.cell? ⟨w.heap.size + 1, 3, none⟩ = some (.int .u64 (l2 m)) ∧ w'.cell? ⟨w.heap.size + 1, 4, none⟩ = some (.int .u64 (l3 m))) (simp [go_sem, *])
      (first | (go_at_call 87; refine (mulDouble_x n m _ hn0 hn hm0 hm).mono ?_; rintro e w3 ⟨rfl, hm3⟩; have m3 : Mo w2 w3 := Mo.trans (by repeat (first | with_reducible exact Mo.refl _ | with_reducible apply Mo.drew | with_reducible apply Mo.alloc)) hm3; obtain ⟨⟨e0, e1, e2, e3, e4, e5⟩, _, es⟩ := Qa.mo m3; obtain ⟨⟨f0, f1, f2, f3, f4, f5⟩, _, fs⟩ := Qb.mo m3; have nw3a : ¬ w.heap.size = w3.heap.size := (by omega); have nw3b : ¬ w.heap.size + 1 = w3.heap.size := (by omega); (first | (with_reducible have pq := T81.mk1 hm3; obtain ⟨p1, pz⟩ := pq) | (with_reducible have pq := T81.mk2 hm3; obtain ⟨p1, pz⟩ := pq) | skip)))
    all_goals
      go_wp2
      go_meet
      case rel =>
        have zr := (Qr.mo m3).2.2
        refine ⟨_, by cases b <;> cases c <;> rfl, rfl, by omega, ?_, ?_, ?_, ?_, ?_⟩
        · have MM1 := M.trans m3
          first | with_reducible exact Mo.setCells (by omega) _ _ _ MM1 | with_reducible exact Mo.setCells (by omega) _ _ _ (MM1.alloc _ _)
        · have q := Qa.mo m3
          first | with_reducible exact q.other (by omega) _ | with_reducible exact (q.mo ((Mo.refl _).alloc _ _)).other (by omega) _
        · have q := Qb.mo m3
          first | with_reducible exact q.other (by omega) _ | with_reducible exact (q.mo ((Mo.refl _).alloc _ _)).other (by omega) _
        · have q := Qr.mo m3
          first | with_reducible exact q.other (by omega) _ | with_reducible exact (q.mo ((Mo.refl _).alloc _ _)).other (by omega) _
        · first | with_reducible exact AtX.same _ p1 (by omega) | exact AtX.same _ (there_new _) (by simp)
  case rest =>
    clear ca0 ca1 ca2 ca3 ca4 ca5 fa sa sxa sya cb0 cb1 cb2 cb3 cb4 cb5 fb sb sxb syb cr0 cr1 cr2 cr3 cr4 cr5 fr sr sxr syr Qa Qb Qr M nw2a nw2b rst rn1 rc
    obtain ⟨k, rfl, rfl, hk, M, Qa, Qb, Qr, Qx⟩ := hcut
    obtain ⟨X, hX⟩ : ∃ X, X = n * m := ⟨_, rfl⟩
    rw [← hX] at Qx
    have HX : Hid _ := hX
    clear hX
    generalize hnb : (b != c) = nb at *
    have HN : Hid _ := hnb
    clear hnb
    have xl := ld81 wc k X Qx.1
    have xc := Qx.cells
    obtain ⟨x0, x1, x2, x3, x4, x5, x6, x7⟩ := xc
    have Oa := Qa
    obtain ⟨⟨ca0, ca1, ca2, ca3, ca4, ca5⟩, fa, sa⟩ := Oa
    have fa := fun o => fa o
    have sxa : w.heap.size < wc.heap.size + 1 := by omega
    have sya : w.heap.size < wc.heap.size + 1 + 1 := by omega
    have Ob := Qb
    obtain ⟨⟨cb0, cb1, cb2, cb3, cb4, cb5⟩, fb, sb⟩ := Ob
    have fb := fun o => fb o
    have sxb : w.heap.size + 1 < wc.heap.size + 1 := by omega
    have syb : w.heap.size + 1 < wc.heap.size + 1 + 1 := by omega
    have Or := Qr
    obtain ⟨⟨cr0, cr1, cr2, cr3, cr4, cr5⟩, fr, sr⟩ := Or
    have fr := fun o => fr o
    have sxr : w.heap.size + 1 + 1 < wc.heap.size + 1 := by omega
    have syr : w.heap.size + 1 + 1 < wc.heap.size + 1 + 1 := by omega
    have hf := HF.out
    rw [← HX.out] at z4
    rw [← HX.out] at hmul hfit
    go_upto_region 13 with fail
    go_region_with
      (first | (go_at_call 74; refine (hten _).mono ?_; rintro e w5 ⟨rfl, hm5⟩; have m5 : Mo wc w5 := Mo.trans (by repeat (first | with_reducible exact Mo.refl _ | with_reducible apply Mo.drew | with_reducible apply Mo.alloc)) hm5; obtain ⟨y0, y1, y2, y3, y4, y5, y6, y7⟩ := (Qx.mo m5).cells) | (go_at_call 87; refine (hmul _).mono ?_; rintro e w6 ⟨rfl, hm6⟩; have m6 : Mo w5 w6 := Mo.trans (by repeat (first | with_reducible exact Mo.refl _ | with_reducible apply Mo.drew | with_reducible apply Mo.alloc)) hm6) | (go_at_call 77; refine (hfit _).mono ?_; rintro e w7 ⟨rfl, hm7⟩; have m7 : Mo w6 w7 := Mo.trans (by repeat (first | with_reducible exact Mo.refl _ | with_reducible apply Mo.drew | with_reducible apply Mo.alloc)) hm7; have m8 := (m5.trans m6).trans m7; obtain ⟨⟨g0, g1, g2, g3, g4, g5⟩, gf, gz⟩ := Qr.mo m8; have gf := fun o => gf o))
    all_goals
      go_wp2
      have M := M.trans m8
      refine bodyPost_ret (v := .tuple #[dz (sv nb (X * T)) S, .int .i64 0]) (by simp [results, Try.results41, go_sem, *]) rfl ?_
      refine ⟨by rw [HN.out, ← HX.out, ← HT.out], ?_⟩
      repeat (first | with_reducible exact M | with_reducible exact Mo.refl _ | with_reducible apply Mo.drew | with_reducible apply Mo.drewN | with_reducible apply Mo.alloc | with_reducible refine Mo.setCell ?_ (by simp <;> omega) _)
set_option maxHeartbeats 8000000 in
theorem mulTo_up_full (b c : Bool) (n m s t S p : Int) (w : World) (hn0 : 0 ≤ n) (hn : n < MM) (hm0 : 0 ≤ m) (hm : m < MM) (h1 : ck b n s = 0) (h2 : ck c m t = 0) (hS : sc S = true) (hp1 : 1 ≤ p) (hp5 : p ≤ 5) (g : Nat) (hf : s + t - S = -(g : Int)) (hg : g ≤ 18) (hs : 0 ≤ s ∧ s ≤ 18) (ht : 0 ≤ t ∧ t ≤ 18) (hx : n * m < MM) (hr : MM ≤ n * m * 10 ^ g) :
    Calls Try.prog 41 #[dc b n s, dc c m t, .int .i64 S, .int .i64 p] w fun e w' => e = .returned (er 7) ∧ Mo w w' := by
  have bX := prod_bd hn0 hn hm0 hm
  have q4 := eq4
  have hst : IntKind.i64.wrap (s + t) = s + t := by rw [IntKind.wrap_i64]; omega
  have hff : IntKind.i64.wrap (-(g : Int)) = -(g : Int) := by rw [IntKind.wrap_i64]; omega
  have hgg : IntKind.i64.wrap (g : Int) = (g : Int) := by rw [IntKind.wrap_i64]; omega
  have hd : decide (-(g : Int) > 0) = false := decide_eq_false (by omega)
  have HF : Hid _ := hf
  have z4 : (l0 (n * m / MM) == 0 && (l1 (n * m / MM) == 0 && (l2 (n * m / MM) == 0 && l3 (n * m / MM) == 0))) = true := by
    rw [Int.ediv_eq_zero_of_lt bX.1 hx]; rfl
  have hg77 : g ≤ 77 := by omega
  have tb := ten_bd g hg77
  have hten : ∀ w, Calls Try.prog 74 #[.int .i64 (g : Int)] w fun e w' => e = .returned (nv (10 ^ g)) ∧ Mo w w' := fun w => dten_n g w hg77
  have hmul : ∀ w, Calls Try.prog 87 #[nv (n * m), nv (10 ^ g)] w fun e w' => e = .returned (dx (n * m * 10 ^ g)) ∧ Mo w w' := fun w => mulDouble_x (n * m) (10 ^ g) w bX.1 hx (by omega) tb.2
  have hfit : ∀ w, Calls Try.prog 77 #[.bool (b != c), dx (n * m * 10 ^ g), .int .i64 S] w fun e w' => e = .returned (er 7) ∧ Mo w w' := fun w => fit_full (b != c) (n * m * 10 ^ g) S w hr (prod_bd bX.1 hx (by omega) tb.2).2
  clear bX hf hr hx tb
  obtain ⟨T, hT⟩ : ∃ T : Int, T = 10 ^ g := ⟨_, rfl⟩
  rw [← hT] at hten hmul hfit
  have HT : Hid _ := hT
  clear hT
  have hsz := dwa_size
  have rst := st81
  have rn1 := there_new
  have rc := cell_sc
  go_enter Try.func41, Try.ntmps41
  go_wp2_with fail
  refine (both_ok b n s c m t _ hn0 hn hm0 hm h1 h2).mono ?_
  rintro e w1 ⟨rfl, hm1⟩
  have mz : Mo w w1 := Mo.trans (by repeat (first | with_reducible exact Mo.refl _ | with_reducible apply Mo.drew | with_reducible apply Mo.alloc)) hm1
  have M := mz
  have Qa : AtD w1 (w.heap.size) b n s := AtD.mo ⟨by simp [go_sem], fun o => by simp [go_sem], by simp <;> omega⟩ hm1
  have Qb : AtD w1 (w.heap.size + 1) c m t := AtD.mo ⟨by simp [go_sem], fun o => by simp [go_sem], by simp <;> omega⟩ hm1
  have Qr : AtD w1 (w.heap.size + 1 + 1) false 0 0 := AtD.mo ⟨by simp [go_sem, zl0, zl1, zl2, zl3], fun o => by simp [go_sem], by simp <;> omega⟩ hm1
  clear hm1 mz
  have Oa := Qa
  obtain ⟨⟨ca0, ca1, ca2, ca3, ca4, ca5⟩, fa, sa⟩ := Oa
  have fa := fun o => fa o
  have sxa : w.heap.size < w1.heap.size + 1 := by omega
  have sya : w.heap.size < w1.heap.size + 1 + 1 := by omega
  have Ob := Qb
  obtain ⟨⟨cb0, cb1, cb2, cb3, cb4, cb5⟩, fb, sb⟩ := Ob
  have fb := fun o => fb o
  have sxb : w.heap.size + 1 < w1.heap.size + 1 := by omega
  have syb : w.heap.size + 1 < w1.heap.size + 1 + 1 := by omega
  have Or := Qr
  obtain ⟨⟨cr0, cr1, cr2, cr3, cr4, cr5⟩, fr, sr⟩ := Or
  have fr := fun o => fr o
  have sxr : w.heap.size + 1 + 1 < w1.heap.size + 1 := by omega
  have syr : w.heap.size + 1 + 1 < w1.heap.size + 1 + 1 := by omega
  go_wp2_with fail
  refine (cr_ok S p _ hS hp1 hp5).mono ?_
  rintro e w2 ⟨rfl, hm2⟩
  have mz : Mo w1 w2 := Mo.trans (by repeat (first | with_reducible exact Mo.refl _ | with_reducible apply Mo.drew | with_reducible apply Mo.alloc)) hm2
  have zw1a := sa
  have zw1b := sb
  have zw1r := sr
  clear ca0 ca1 ca2 ca3 ca4 ca5 fa sa sxa sya cb0 cb1 cb2 cb3 cb4 cb5 fb sb sxb syb cr0 cr1 cr2 cr3 cr4 cr5 fr sr sxr syr
  have Qa := Qa.mo mz
  have Qb := Qb.mo mz
  have Qr := Qr.mo mz
  have M := M.trans mz
  clear hm2 mz
  have Oa := Qa
  obtain ⟨⟨ca0, ca1, ca2, ca3, ca4, ca5⟩, fa, sa⟩ := Oa
  have fa := fun o => fa o
  have sxa : w.heap.size < w2.heap.size + 1 := by omega
  have sya : w.heap.size < w2.heap.size + 1 + 1 := by omega
  have Ob := Qb
  obtain ⟨⟨cb0, cb1, cb2, cb3, cb4, cb5⟩, fb, sb⟩ := Ob
  have fb := fun o => fb o
  have sxb : w.heap.size + 1 < w2.heap.size + 1 := by omega
  have syb : w.heap.size + 1 < w2.heap.size + 1 + 1 := by omega
  have Or := Qr
  obtain ⟨⟨cr0, cr1, cr2, cr3, cr4, cr5⟩, fr, sr⟩ := Or
  have fr := fun o => fr o
  have sxr : w.heap.size + 1 + 1 < w2.heap.size + 1 := by omega
  have syr : w.heap.size + 1 + 1 < w2.heap.size + 1 + 1 := by omega
  go_upto_region 7 with fail
  have nw2a : ¬ w.heap.size = w2.heap.size := (by omega)
  have nw2b : ¬ w.heap.size + 1 = w2.heap.size := (by omega)
  go_cut [12, 13] from 29 to 38 (fun s12 s13 wx => ∃ k, s12 = .bool (b != c) ∧ s13 = .pointer (some ⟨k, 0, none⟩) ∧ w.heap.size + 1 + 1 < k ∧ Mo w wx ∧ AtD wx w.heap.size b n s ∧ AtD wx (w.heap.size + 1) c m t ∧ AtD wx (w.heap.size + 1 + 1) false 0 0 ∧ AtX wx k (n * m))
  case first =>
    go_region_held3 (fun w' => w'.cell? ⟨w.heap.size, 0, none⟩ = some (.bool b) ∧ w'.cell? ⟨w.heap.size, 1, none⟩ = some (.int .u64 (l0 n)) ∧ w'.cell? ⟨w.heap.size, 2, none⟩ = some (.int .u64 (l1 n)) ∧ w'.cell? ⟨w.heap.size, 3, none⟩ = some (.int .u64 (l2 n)) ∧ w'.cell? ⟨w.heap.size, 4, none⟩ = some (.int .u64 (l3 n)) ∧ w'.cell? ⟨w.heap.size + 1, 0, none⟩ = some (.bool c) ∧ w'.cell? ⟨w.heap.size + 1, 1, none⟩ = some (.int .u64 (l0 m)) ∧ w'.cell? ⟨w.heap.size + 1, 2, none⟩ = some (.int .u64 (l1 m)) ∧ w'.cell? ⟨w.heap.size + 1, 3, none⟩ = some (.int .u64 (l2 m)) ∧ w'.cell? ⟨w.heap.size + 1, 4, none⟩ = some (.int .u64 (l3 m))) (simp [go_sem, *])
      (first | (go_at_call 87; refine (mulDouble_x n m _ hn0 hn hm0 hm).mono ?_; rintro e w3 ⟨rfl, hm3⟩; have m3 : Mo w2 w3 := Mo.trans (by repeat (first | with_reducible exact Mo.refl _ | with_reducible apply Mo.drew | with_reducible apply Mo.alloc)) hm3; obtain ⟨⟨e0, e1, e2, e3, e4, e5⟩, _, es⟩ := Qa.mo m3; obtain ⟨⟨f0, f1, f2, f3, f4, f5⟩, _, fs⟩ := Qb.mo m3; have nw3a : ¬ w.heap.size = w3.heap.size := (by omega); have nw3b : ¬ w.heap.size + 1 = w3.heap.size := (by omega); (first | (with_reducible have pq := T81.mk1 hm3; obtain ⟨p1, pz⟩ := pq) | (with_reducible have pq := T81.mk2 hm3; obtain ⟨p1, pz⟩ := pq) | skip)))
    all_goals
      go_wp2
      go_meet
      case rel =>
        have zr := (Qr.mo m3).2.2
        refine ⟨_, by cases b <;> cases c <;> rfl, rfl, by omega, ?_, ?_, ?_, ?_, ?_⟩
        · have MM1 := M.trans m3
          first | with_reducible exact Mo.setCells (by omega) _ _ _ MM1 | with_reducible exact Mo.setCells (by omega) _ _ _ (MM1.alloc _ _)
        · have q := Qa.mo m3
          first | with_reducible exact q.other (by omega) _ | with_reducible exact (q.mo ((Mo.refl _).alloc _ _)).other (by omega) _
        · have q := Qb.mo m3
          first | with_reducible exact q.other (by omega) _ | with_reducible exact (q.mo ((Mo.refl _).alloc _ _)).other (by omega) _
        · have q := Qr.mo m3
          first | with_reducible exact q.other (by omega) _ | with_reducible exact (q.mo ((Mo.refl _).alloc _ _)).other (by omega) _
        · first | with_reducible exact AtX.same _ p1 (by omega) | exact AtX.same _ (there_new _) (by simp)
  case rest =>
    clear ca0 ca1 ca2 ca3 ca4 ca5 fa sa sxa sya cb0 cb1 cb2 cb3 cb4 cb5 fb sb sxb syb cr0 cr1 cr2 cr3 cr4 cr5 fr sr sxr syr Qa Qb Qr M nw2a nw2b rst rn1 rc
    obtain ⟨k, rfl, rfl, hk, M, Qa, Qb, Qr, Qx⟩ := hcut
    obtain ⟨X, hX⟩ : ∃ X, X = n * m := ⟨_, rfl⟩
    rw [← hX] at Qx
    have HX : Hid _ := hX
    clear hX
    generalize hnb : (b != c) = nb at *
    have HN : Hid _ := hnb
    clear hnb
    have xl := ld81 wc k X Qx.1
    have xc := Qx.cells
    obtain ⟨x0, x1, x2, x3, x4, x5, x6, x7⟩ := xc
    have Oa := Qa
    obtain ⟨⟨ca0, ca1, ca2, ca3, ca4, ca5⟩, fa, sa⟩ := Oa
    have fa := fun o => fa o
    have sxa : w.heap.size < wc.heap.size + 1 := by omega
    have sya : w.heap.size < wc.heap.size + 1 + 1 := by omega
    have Ob := Qb
    obtain ⟨⟨cb0, cb1, cb2, cb3, cb4, cb5⟩, fb, sb⟩ := Ob
    have fb := fun o => fb o
    have sxb : w.heap.size + 1 < wc.heap.size + 1 := by omega
    have syb : w.heap.size + 1 < wc.heap.size + 1 + 1 := by omega
    have Or := Qr
    obtain ⟨⟨cr0, cr1, cr2, cr3, cr4, cr5⟩, fr, sr⟩ := Or
    have fr := fun o => fr o
    have sxr : w.heap.size + 1 + 1 < wc.heap.size + 1 := by omega
    have syr : w.heap.size + 1 + 1 < wc.heap.size + 1 + 1 := by omega
    have hf := HF.out
    rw [← HX.out] at z4
    rw [← HX.out] at hmul hfit
    go_upto_region 13 with fail
    go_region_with
      (first | (go_at_call 74; refine (hten _).mono ?_; rintro e w5 ⟨rfl, hm5⟩; have m5 : Mo wc w5 := Mo.trans (by repeat (first | with_reducible exact Mo.refl _ | with_reducible apply Mo.drew | with_reducible apply Mo.alloc)) hm5; obtain ⟨y0, y1, y2, y3, y4, y5, y6, y7⟩ := (Qx.mo m5).cells) | (go_at_call 87; refine (hmul _).mono ?_; rintro e w6 ⟨rfl, hm6⟩; have m6 : Mo w5 w6 := Mo.trans (by repeat (first | with_reducible exact Mo.refl _ | with_reducible apply Mo.drew | with_reducible apply Mo.alloc)) hm6) | (go_at_call 77; refine (hfit _).mono ?_; rintro e w7 ⟨rfl, hm7⟩; have m7 : Mo w6 w7 := Mo.trans (by repeat (first | with_reducible exact Mo.refl _ | with_reducible apply Mo.drew | with_reducible apply Mo.alloc)) hm7; have m8 := (m5.trans m6).trans m7; obtain ⟨⟨g0, g1, g2, g3, g4, g5⟩, gf, gz⟩ := Qr.mo m8; have gf := fun o => gf o))
    all_goals
      go_wp2
      have M := M.trans m8
      refine bodyPost_ret (v := er 7) (by simp [results, Try.results41, go_sem, *]) rfl ?_
      refine ⟨rfl, ?_⟩
      repeat (first | with_reducible exact M | with_reducible exact Mo.refl _ | with_reducible apply Mo.drew | with_reducible apply Mo.drewN | with_reducible apply Mo.alloc | with_reducible refine Mo.setCell ?_ (by simp <;> omega) _)
end Go.Proofs.Ytoiiekmkcpcbgaa
/-
  decimal.Rescale: the walk.
-/
namespace Go.Proofs.Ytoiiekmkcpcbgaa
open Go.RowKit
set_option maxHeartbeats 4000000 in
theorem rescale_ok (b : Bool) (n s S p : Int) (V : Int) (w : World) (hmt : ∀ w, Calls Try.prog 41 #[dc b n s, dc false 1 0, .int .i64 S, .int .i64 p] w fun e' w' => e' = .returned (.tuple #[dz V S, .int .i64 0]) ∧ Mo w w') :
    Calls Try.prog 43 #[dc b n s, .int .i64 S, .int .i64 p] w fun e' w' => e' = .returned (.tuple #[dz V S, .int .i64 0]) ∧ Mo w w' := by
  go_enter Try.func43, Try.ntmps43
  have a : Mo w ((((w).alloc (.cells #[.bool b, .int .u64 (l0 (n)), .int .u64 (l1 (n)), .int .u64 (l2 (n)), .int .u64 (l3 (n)), .int .i64 (s)] 40))).alloc (.cells #[.bool false, .int .u64 0, .int .u64 0, .int .u64 0, .int .u64 0, .int .i64 0] 40)) := by repeat (first | with_reducible exact Mo.refl _ | with_reducible apply Mo.alloc)
  have M := a
  have Qa : AtD ((((w).alloc (.cells #[.bool b, .int .u64 (l0 (n)), .int .u64 (l1 (n)), .int .u64 (l2 (n)), .int .u64 (l3 (n)), .int .i64 (s)] 40))).alloc (.cells #[.bool false, .int .u64 0, .int .u64 0, .int .u64 0, .int .u64 0, .int .i64 0] 40)) (w.heap.size) b n s := ⟨by simp [go_sem], fun o => by simp [go_sem], by simp <;> omega⟩
  have Qr : AtD ((((w).alloc (.cells #[.bool b, .int .u64 (l0 (n)), .int .u64 (l1 (n)), .int .u64 (l2 (n)), .int .u64 (l3 (n)), .int .i64 (s)] 40))).alloc (.cells #[.bool false, .int .u64 0, .int .u64 0, .int .u64 0, .int .u64 0, .int .i64 0] 40)) (w.heap.size + 1) false 0 0 := ⟨by simp [go_sem, zl0, zl1, zl2, zl3], fun o => by simp [go_sem], by simp <;> omega⟩
  clear a
  go_upto_region 1 with fail
  generalize ((((w).alloc (.cells #[.bool b, .int .u64 (l0 (n)), .int .u64 (l1 (n)), .int .u64 (l2 (n)), .int .u64 (l3 (n)), .int .i64 (s)] 40))).alloc (.cells #[.bool false, .int .u64 0, .int .u64 0, .int .u64 0, .int .u64 0, .int .i64 0] 40)) = W0 at *
  have Oa := Qa
  obtain ⟨⟨ca0, ca1, ca2, ca3, ca4, ca5⟩, fa, sa⟩ := Oa
  have fa := fun o => fa o
  have sxa : w.heap.size < W0.heap.size + 1 := by omega
  have sya : w.heap.size < W0.heap.size + 1 + 1 := by omega
  have Or := Qr
  obtain ⟨⟨cr0, cr1, cr2, cr3, cr4, cr5⟩, fr, sr⟩ := Or
  have fr := fun o => fr o
  have sxr : w.heap.size + 1 < W0.heap.size + 1 := by omega
  have syr : w.heap.size + 1 < W0.heap.size + 1 + 1 := by omega
  go_region_with
    (first | (go_at_call 56; refine (from20_any 1 _ ⟨by decide, by decide⟩).mono ?_; rintro e' w1 ⟨rfl, hm1⟩; have m1 : Mo W0 w1 := Mo.trans (by repeat (first | with_reducible exact Mo.refl _ | with_reducible apply Mo.drew | with_reducible apply Mo.alloc)) hm1; obtain ⟨⟨x0, x1, x2, x3, x4, x5⟩, _, xs⟩ := Qa.mo m1) | (go_at_call 41; refine (hmt _).mono ?_; rintro e' w2 ⟨rfl, hm2⟩; have m2 : Mo w1 w2 := Mo.trans (by repeat (first | with_reducible exact Mo.refl _ | with_reducible apply Mo.drew | with_reducible apply Mo.alloc)) hm2; have m3 := m1.trans m2; obtain ⟨⟨z0, z1, z2, z3, z4, z5⟩, zf, zs⟩ := Qr.mo m3; have zf := fun o => zf o))
  all_goals
    go_wp2
    have M := M.trans m3
    refine bodyPost_ret (v := .tuple #[dz V S, .int .i64 0]) (by simp [results, Try.results43, go_sem, *]) rfl ?_
    refine ⟨rfl, ?_⟩
    repeat (first | with_reducible exact M | with_reducible exact Mo.refl _ | with_reducible apply Mo.drew | with_reducible apply Mo.drewN | with_reducible apply Mo.alloc | with_reducible refine Mo.setCell ?_ (by simp <;> omega) _)
set_option maxHeartbeats 4000000 in
theorem rescale_er (b : Bool) (n s S p : Int) (e : Int) (w : World) (hmt : ∀ w, Calls Try.prog 41 #[dc b n s, dc false 1 0, .int .i64 S, .int .i64 p] w fun e' w' => e' = .returned (er e) ∧ Mo w w') :
    Calls Try.prog 43 #[dc b n s, .int .i64 S, .int .i64 p] w fun e' w' => e' = .returned (er e) ∧ Mo w w' := by
  go_enter Try.func43, Try.ntmps43
  have a : Mo w ((((w).alloc (.cells #[.bool b, .int .u64 (l0 (n)), .int .u64 (l1 (n)), .int .u64 (l2 (n)), .int .u64 (l3 (n)), .int .i64 (s)] 40))).alloc (.cells #[.bool false, .int .u64 0, .int .u64 0, .int .u64 0, .int .u64 0, .int .i64 0] 40)) := by repeat (first | with_reducible exact Mo.refl _ | with_reducible apply Mo.alloc)
  have M := a
  have Qa : AtD ((((w).alloc (.cells #[.bool b, .int .u64 (l0 (n)), .int .u64 (l1 (n)), .int .u64 (l2 (n)), .int .u64 (l3 (n)), .int .i64 (s)] 40))).alloc (.cells #[.bool false, .int .u64 0, .int .u64 0, .int .u64 0, .int .u64 0, .int .i64 0] 40)) (w.heap.size) b n s := ⟨by simp [go_sem], fun o => by simp [go_sem], by simp <;> omega⟩
  have Qr : AtD ((((w).alloc (.cells #[.bool b, .int .u64 (l0 (n)), .int .u64 (l1 (n)), .int .u64 (l2 (n)), .int .u64 (l3 (n)), .int .i64 (s)] 40))).alloc (.cells #[.bool false, .int .u64 0, .int .u64 0, .int .u64 0, .int .u64 0, .int .i64 0] 40)) (w.heap.size + 1) false 0 0 := ⟨by simp [go_sem, zl0, zl1, zl2, zl3], fun o => by simp [go_sem], by simp <;> omega⟩
  clear a
  go_upto_region 1 with fail
  generalize ((((w).alloc (.cells #[.bool b, .int .u64 (l0 (n)), .int .u64 (l1 (n)), .int .u64 (l2 (n)), .int .u64 (l3 (n)), .int .i64 (s)] 40))).alloc (.cells #[.bool false, .int .u64 0, .int .u64 0, .int .u64 0, .int .u64 0, .int .i64 0] 40)) = W0 at *
  have Oa := Qa
  obtain ⟨⟨ca0, ca1, ca2, ca3, ca4, ca5⟩, fa, sa⟩ := Oa
  have fa := fun o => fa o
  have sxa : w.heap.size < W0.heap.size + 1 := by omega
  have sya : w.heap.size < W0.heap.size + 1 + 1 := by omega
  have Or := Qr
  obtain ⟨⟨cr0, cr1, cr2, cr3, cr4, cr5⟩, fr, sr⟩ := Or
  have fr := fun o => fr o
  have sxr : w.heap.size + 1 < W0.heap.size + 1 := by omega
  have syr : w.heap.size + 1 < W0.heap.size + 1 + 1 := by omega
  go_region_with
    (first | (go_at_call 56; refine (from20_any 1 _ ⟨by decide, by decide⟩).mono ?_; rintro e' w1 ⟨rfl, hm1⟩; have m1 : Mo W0 w1 := Mo.trans (by repeat (first | with_reducible exact Mo.refl _ | with_reducible apply Mo.drew | with_reducible apply Mo.alloc)) hm1; obtain ⟨⟨x0, x1, x2, x3, x4, x5⟩, _, xs⟩ := Qa.mo m1) | (go_at_call 41; refine (hmt _).mono ?_; rintro e' w2 ⟨rfl, hm2⟩; have m2 : Mo w1 w2 := Mo.trans (by repeat (first | with_reducible exact Mo.refl _ | with_reducible apply Mo.drew | with_reducible apply Mo.alloc)) hm2; have m3 := m1.trans m2; obtain ⟨⟨z0, z1, z2, z3, z4, z5⟩, zf, zs⟩ := Qr.mo m3; have zf := fun o => zf o))
  all_goals
    go_wp2
    have M := M.trans m3
    refine bodyPost_ret (v := er e) (by simp [results, Try.results43, go_sem, *]) rfl ?_
    refine ⟨rfl, ?_⟩
    repeat (first | with_reducible exact M | with_reducible exact Mo.refl _ | with_reducible apply Mo.drew | with_reducible apply Mo.drewN | with_reducible apply Mo.alloc | with_reducible refine Mo.setCell ?_ (by simp <;> omega) _)
end Go.Proofs.Ytoiiekmkcpcbgaa
/-
  decimal's functions by whole numbers: what they answer at numbers that may be.
-/
namespace Go.Proofs.Ytoiiekmkcpcbgaa
open Go.RowKit
/-- Ten to the k. -/
def pw (k : Int) : Int := 10 ^ k.toNat
theorem pw_pos (k : Int) : 0 < pw k := Int.pow_pos (by decide)
theorem pw_zero : pw 0 = 1 := rfl
theorem pw_nat (k : Nat) : pw (k : Int) = 10 ^ k := rfl
/-- The sum of two numbers, in the last digits of the greater scale. -/
def addV (u s v t : Int) : Int := u * pw (max s t - s) + v * pw (max s t - t)
theorem ab_c (v : Int) : (v < 0 ∧ ab v = -v) ∨ (0 ≤ v ∧ ab v = v) := by
  unfold ab; by_cases h : v < 0
  · exact Or.inl ⟨h, if_pos h⟩
  · exact Or.inr ⟨by omega, if_neg h⟩
theorem ab_mul {u x : Int} (hx : 0 < x) : ab u * x = ab (u * x) := by
  unfold ab
  by_cases h : u < 0
  · rw [if_pos h, if_pos (Int.mul_neg_of_neg_of_pos h hx), Int.neg_mul]
  · rw [if_neg h, if_neg (by have := Int.mul_nonneg (Int.not_lt.1 h) (Int.le_of_lt hx); omega)]
theorem neg_mul_iff {u x : Int} (hx : 0 < x) : decide (u * x < 0) = decide (u < 0) := by
  by_cases h : u < 0
  · rw [decide_eq_true h, decide_eq_true (Int.mul_neg_of_neg_of_pos h hx)]
  · have := Int.mul_nonneg (Int.not_lt.1 h) (Int.le_of_lt hx)
    rw [decide_eq_false h, decide_eq_false (by omega)]
theorem lifted_sm {n : Int} {i : Nat} (h0 : 0 ≤ n) (h : n < MM) (hi : i ≤ 18) : n * 10 ^ i < 1000000000000000000 * MM := by
  have h1 : (10 : Nat) ^ i ≤ 10 ^ 18 := Nat.pow_le_pow_right (by decide) hi
  have h3 : ((10 ^ i : Nat) : Int) = (10 : Int) ^ i := by rw [Int.natCast_pow]; rfl
  have h4 : (10 : Int) ^ i ≤ 1000000000000000000 := by rw [← h3]; omega
  have a : n * 10 ^ i ≤ n * 1000000000000000000 := Int.mul_le_mul_of_nonneg_left h4 h0
  unfold MM at *
  omega
theorem one6 (b : Bool) (n s : Int) : [Value.bool b, .int .u64 (l0 n), .int .u64 (l1 n), .int .u64 (l2 n), .int .u64 (l3 n), .int .i64 s].all (·.oneCell') = true := rfl
theorem add_z (u s v t : Int) (w : World) (hu : ab u < MM) (hv : ab v < MM) (hs : sc s = true) (ht : sc t = true) :
    Calls Try.prog 35 #[dz u s, dz v t] w fun e w' => e = .returned (fz (addV u s v t) (max s t)) ∧ Mo w w' := by
  obtain ⟨s0, s1⟩ := sc_iff.1 hs
  obtain ⟨t0, t1⟩ := sc_iff.1 ht
  obtain ⟨S, hS⟩ : ∃ S, max s t = S := ⟨_, rfl⟩
  obtain ⟨i, hi⟩ : ∃ i : Nat, S - s = (i : Int) := ⟨(S - s).toNat, by omega⟩
  obtain ⟨j, hj⟩ : ∃ j : Nat, S - t = (j : Int) := ⟨(S - t).toNat, by omega⟩
  unfold addV
  rw [hS, hi, hj, pw_nat, pw_nat]
  have pi : (0 : Int) < 10 ^ i := Int.pow_pos (by decide)
  have pj : (0 : Int) < 10 ^ j := Int.pow_pos (by decide)
  have bX := lifted_bd (ab_nn u) hu (i := i) (by omega)
  have bY := lifted_bd (ab_nn v) hv (i := j) (by omega)
  have bX2 := lifted_sm (ab_nn u) hu (i := i) (by omega)
  have bY2 := lifted_sm (ab_nn v) hv (i := j) (by omega)
  have eX := ab_mul (u := u) pi
  have eY := ab_mul (u := v) pj
  have nX := neg_mul_iff (u := u) pi
  have nY := neg_mul_iff (u := v) pj
  have key : ∀ (b : Bool) (X : Int), X = ab (u * 10 ^ i + v * 10 ^ j) → X < MM * MM → (X ≠ 0 → b = decide (u * 10 ^ i + v * 10 ^ j < 0)) → ∀ w, Calls Try.prog 77 #[.bool b, dx X, .int .i64 S] w fun e w' => e = .returned (fz (u * 10 ^ i + v * 10 ^ j) S) ∧ Mo w w' :=
    fun b X h1 h2 h3 w => fit_x b X S _ w h1 h2 h3
  obtain ⟨V, hV⟩ : ∃ V, u * 10 ^ i + v * 10 ^ j = V := ⟨_, rfl⟩
  rw [hV] at key ⊢
  obtain ⟨A, hA⟩ : ∃ A, u * 10 ^ i = A := ⟨_, rfl⟩
  obtain ⟨B, hB⟩ : ∃ B, v * 10 ^ j = B := ⟨_, rfl⟩
  rw [hA, hB] at hV
  rw [hA] at eX nX
  rw [hB] at eY nY
  have go : ∀ (d0 d1 d2 d3 d4 d5 : Value) (e : Int), fz V S = .tuple #[.agg #[d0, d1, d2, d3, d4, d5], .int .i64 e] → [d0, d1, d2, d3, d4, d5].all (·.oneCell') = true →
      Calls Try.prog 35 #[dz u s, dz v t] w fun e w' => e = .returned (fz V S) ∧ Mo w w' := by
    intro d0 d1 d2 d3 d4 d5 e he hd
    rw [he] at key ⊢
    have cA := ab_c A
    have cB := ab_c B
    have cV := ab_c V
    by_cases hb : (decide (u < 0) == decide (v < 0)) = true
    · have bS : ab u * 10 ^ i + ab v * 10 ^ j < MM * MM := by unfold MM at *; omega
      have hab : (A < 0) ↔ (B < 0) := by
        have : decide (A < 0) = decide (B < 0) := by rw [nX, nY]; simpa using hb
        simpa using this
      refine add_same _ _ _ _ s t S i j d0 d1 d2 d3 d4 d5 e w (ab_nn u) hu (ab_nn v) hv (ck_dz hs) (ck_dz ht) hS hi hj (by omega) (by omega) hb hd (key _ _ ?_ bS ?_)
      · rw [eX, eY]; omega
      · intro hne
        rw [eX, eY] at hne
        rw [← nX, decide_eq_decide]; omega
    · have hb : (decide (u < 0) == decide (v < 0)) = false := by simpa using hb
      have hab : ¬ ((A < 0) ↔ (B < 0)) := by
        intro h
        have : decide (A < 0) = decide (B < 0) := decide_eq_decide.2 h
        rw [nX, nY] at this
        rw [this] at hb; simp at hb
      by_cases hlt : ab A < ab B
      · have bS : ab v * 10 ^ j - ab u * 10 ^ i < MM * MM := by omega
        have hc : decide (cm (ab u * 10 ^ i) (ab v * 10 ^ j) < 0) = true := by rw [eX, eY]; unfold cm; rw [if_pos hlt]; decide
        refine add_lt _ _ _ _ s t S i j d0 d1 d2 d3 d4 d5 e w (ab_nn u) hu (ab_nn v) hv (ck_dz hs) (ck_dz ht) hS hi hj (by omega) (by omega) hb hc hd (key _ _ ?_ bS ?_)
        · rw [eX, eY]; omega
        · intro _
          rw [← nY, decide_eq_decide]; omega
      · have bS : ab u * 10 ^ i - ab v * 10 ^ j < MM * MM := by omega
        have hc : decide (cm (ab u * 10 ^ i) (ab v * 10 ^ j) < 0) = false := by
          rw [eX, eY]; unfold cm; rw [if_neg hlt]; split <;> decide
        refine add_ge _ _ _ _ s t S i j d0 d1 d2 d3 d4 d5 e w (ab_nn u) hu (ab_nn v) hv (ck_dz hs) (ck_dz ht) hS hi hj (by omega) (by omega) hb hc hd (key _ _ ?_ bS ?_)
        · rw [eX, eY]; omega
        · intro hne
          rw [eX, eY] at hne
          rw [← nX, decide_eq_decide]; omega
  by_cases hr : ab V < MM
  · exact go _ _ _ _ _ _ _ (by unfold fz; rw [if_pos hr]) (one6 _ _ _)
  · exact go _ _ _ _ _ _ _ (by unfold fz; rw [if_neg hr]) rfl
end Go.Proofs.Ytoiiekmkcpcbgaa
/-
  decimal by whole numbers: what else its functions answer.
-/
namespace Go.Proofs.Ytoiiekmkcpcbgaa
open Go.RowKit
theorem add_no (bu bv : Bool) (n m s t : Int) (w : World) (hn0 : 0 ≤ n) (hn : n < MM) (hm0 : 0 ≤ m) (hm : m < MM) (h : ¬ (ck bu n s = 0 ∧ ck bv m t = 0)) :
    Calls Try.prog 35 #[dc bu n s, dc bv m t] w fun e' w' => e' = .returned (er 20) ∧ Mo w w' := by
  refine w_enter 64 Try.func35 Try.ntmps35 rfl rfl ?_
  have M : Mo w w := Mo.refl _
  refine w_seq ?_
  refine w_reg ?_
  refine wl_box 40 (.tmp 0) (.agg #[.bool bu, .int .u64 (l0 (n)), .int .u64 (l1 (n)), .int .u64 (l2 (n)), .int .u64 (l3 (n)), .int .i64 (s)]) (#[.bool bu, .int .u64 (l0 (n)), .int .u64 (l1 (n)), .int .u64 (l2 (n)), .int .u64 (l3 (n)), .int .i64 (s)]) rfl rfl (fun _ => by kernel_rfl) rfl ?_
  intro k1 w1 hk hz hq Q1
  have N_k1 : w.heap.size ≤ k1 := by have := M.size; omega
  replace M := M.trans hq
  clear hk hz hq
  refine wl_box 40 (.tmp 1) (.agg #[.bool bv, .int .u64 (l0 (m)), .int .u64 (l1 (m)), .int .u64 (l2 (m)), .int .u64 (l3 (m)), .int .i64 (t)]) (#[.bool bv, .int .u64 (l0 (m)), .int .u64 (l1 (m)), .int .u64 (l2 (m)), .int .u64 (l3 (m)), .int .i64 (t)]) rfl rfl (fun _ => by kernel_rfl) rfl ?_
  intro k2 w2 hk hz hq Q2
  have ne_k1_k2 : k1 ≠ k2 := by have := Q1.lt; omega
  have N_k2 : w.heap.size ≤ k2 := by have := M.size; omega
  replace Q1 := Q1.mo hq
  replace M := M.trans hq
  clear hk hz hq
  refine wl_alloc 40 #[.bool false, .int .u64 0, .int .u64 0, .int .u64 0, .int .u64 0, .int .i64 0] rfl (fun _ => by kernel_rfl) rfl ?_
  intro k3 w3 hk hz hq Q3
  have ne_k1_k3 : k1 ≠ k3 := by have := Q1.lt; omega
  have ne_k2_k3 : k2 ≠ k3 := by have := Q2.lt; omega
  have N_k3 : w.heap.size ≤ k3 := by have := M.size; omega
  replace Q1 := Q1.mo hq
  replace Q2 := Q2.mo hq
  replace M := M.trans hq
  clear hk hz hq
  refine wl_mv (.const (.int .i64 (0))) (.int .i64 (0)) (fun _ => rfl) rfl rfl ?_
  refine w_nil ?_
  refine xn_then ?_
  refine w_seq ?_
  refine w_seq ?_
  refine w_reg ?_
  refine wl_load 40 (.tmp 2) (pt k1 0) (.agg #[.bool bu, .int .u64 (l0 (n)), .int .u64 (l1 (n)), .int .u64 (l2 (n)), .int .u64 (l3 (n)), .int .i64 (s)]) rfl rfl (run_row Q1 40 0 6 [.bool bu, .int .u64 (l0 (n)), .int .u64 (l1 (n)), .int .u64 (l2 (n)), .int .u64 (l3 (n)), .int .i64 (s)] rfl Try.underlying40 rfl sz40) rfl ?_
  refine wl_load 40 (.tmp 3) (pt k2 0) (.agg #[.bool bv, .int .u64 (l0 (m)), .int .u64 (l1 (m)), .int .u64 (l2 (m)), .int .u64 (l3 (m)), .int .i64 (t)]) rfl rfl (run_row Q2 40 0 6 [.bool bv, .int .u64 (l0 (m)), .int .u64 (l1 (m)), .int .u64 (l2 (m)), .int .u64 (l3 (m)), .int .i64 (t)] rfl Try.underlying40 rfl sz40) rfl ?_
  refine wl_call 75 [(.tmp 10), (.tmp 11)] _ [.agg #[.bool bu, .int .u64 (l0 (n)), .int .u64 (l1 (n)), .int .u64 (l2 (n)), .int .u64 (l3 (n)), .int .i64 (s)], .agg #[.bool bv, .int .u64 (l0 (m)), .int .u64 (l1 (m)), .int .u64 (l2 (m)), .int .u64 (l3 (m)), .int .i64 (t)]] (.int .i64 (20)) rfl rfl (fun _ _ => by kernel_rfl) (both_no bu n s bv m t _ hn0 hn hm0 hm h) rfl ?_
  intro w4 hq
  replace Q1 := Q1.mo hq
  replace Q2 := Q2.mo hq
  replace Q3 := Q3.mo hq
  replace M := M.trans hq
  clear hq
  refine wl_mv (.tmp 12) (.int .i64 (20)) (fun _ => rfl) rfl rfl ?_
  refine w_nil ?_
  refine xn_then ?_
  refine w_seq ?_
  refine w_reg ?_
  refine wl_mv (.tmp 6) (.int .i64 (20)) (fun _ => rfl) rfl rfl ?_
  refine wl_bin (fun x y => do eqGuard .neq 32 (.tmp 13) (.const (.int .i64 (0))) x y; binOp .neq 32 x y) (.tmp 13) (.const (.int .i64 (0))) (.int .i64 (20)) (.int .i64 (0)) (.bool true) (fun _ => rfl) rfl rfl (by kernel_rfl) rfl ?_
  refine w_nil ?_
  refine xn_then ?_
  refine w_condT rfl ?_
  refine w_seq ?_
  refine w_reg ?_
  refine wl_build 40 [] [] (.agg #[.bool false, .int .u64 0, .int .u64 0, .int .u64 0, .int .u64 0, .int .i64 0]) rfl rfl (by kernel_rfl) rfl ?_
  refine wl_mv (.tmp 6) (.int .i64 (20)) (fun _ => rfl) rfl rfl ?_
  refine wl_st 40 (.tmp 4) (.tmp 15) k3 0 #[.bool false, .int .u64 0, .int .u64 0, .int .u64 0, .int .u64 0, .int .i64 0] [.bool false, .int .u64 0, .int .u64 0, .int .u64 0, .int .u64 0, .int .i64 0] [.bool false, .int .u64 0, .int .u64 0, .int .u64 0, .int .u64 0, .int .i64 0] Q3 rfl rfl rfl rfl rfl sz40 rfl rfl rfl ?_
  intro w5 hS Qn
  replace Q3 := Qn
  clear Qn
  replace Q1 := hS.other _ _ ne_k1_k3 Q1
  replace Q2 := hS.other _ _ ne_k2_k3 Q2
  replace M := hS.mo _ N_k3 M
  clear hS
  refine wl_mv (.tmp 16) (.int .i64 (20)) (fun _ => rfl) rfl rfl ?_
  refine w_nil ?_
  refine xn_then ?_
  refine w_ret ?_
  refine xr_then ?_
  exact w_ret2 _ _ (.agg #[.bool false, .int .u64 0, .int .u64 0, .int .u64 0, .int .u64 0, .int .i64 0]) (.int .i64 (20)) rfl ⟨k3, rfl, (run_row Q3 40 0 6 [.bool false, .int .u64 0, .int .u64 0, .int .u64 0, .int .u64 0, .int .i64 0] rfl Try.underlying40 rfl sz40)⟩ rfl ⟨rfl, M⟩
theorem dz_neg (v t : Int) : dc (!decide (v < 0) && !decide (ab v = 0)) (ab v) t = dz (-v) t := by
  have c := ab_c v
  have d := ab_c (-v)
  have e1 : ab v = ab (-v) := by omega
  have e2 : (!decide (v < 0) && !decide (ab v = 0)) = decide (-v < 0) := by
    rw [Bool.eq_iff_iff]; simp; omega
  rw [e2, e1]
theorem neg_z (v t : Int) (w : World) (hv : ab v < MM) (ht : sc t = true) : Calls Try.prog 47 #[dz v t] w fun e w' => e = .returned (.tuple #[dz (-v) t, .int .i64 0]) ∧ Mo w w' := by
  have := neg_ok (decide (v < 0)) (ab v) t w (ab_nn v) hv (ck_dz ht)
  rw [dz_neg] at this
  exact this
theorem ab_neg (v : Int) : ab (-v) = ab v := by have c := ab_c v; have d := ab_c (-v); omega
theorem abs_z (v t : Int) (w : World) (hv : ab v < MM) (ht : sc t = true) : Calls Try.prog 49 #[dz v t] w fun e w' => e = .returned (.tuple #[dz (ab v) t, .int .i64 0]) ∧ Mo w w' := by
  have := abs_ok (decide (v < 0)) (ab v) t w (ab_nn v) hv (ck_dz ht)
  have h0 := ab_nn v
  have e : dc (false && !decide (ab v = 0)) (ab v) t = dz (ab v) t := by
    have c := ab_c (ab v)
    have e1 : ab (ab v) = ab v := by omega
    have e2 : decide (ab v < 0) = false := decide_eq_false (by omega)
    unfold dz; rw [e1, e2]; rfl
  rw [e] at this
  exact this
theorem fz_yes {V S : Int} (h : ab V < MM) : fz V S = .tuple #[dz V S, .int .i64 0] := by unfold fz; rw [if_pos h]
theorem fz_no {V S : Int} (h : ¬ ab V < MM) : fz V S = er 7 := by unfold fz; rw [if_neg h]
theorem sub_z (u s v t : Int) (w : World) (hu : ab u < MM) (hv : ab v < MM) (hs : sc s = true) (ht : sc t = true) :
    Calls Try.prog 37 #[dz u s, dz v t] w fun e w' => e = .returned (fz (addV u s (-v) t) (max s t)) ∧ Mo w w' := by
  have ha := fun w => add_z u s (-v) t w hu (by rw [ab_neg]; exact hv) hs ht
  rw [← dz_neg] at ha
  by_cases h : ab (addV u s (-v) t) < MM
  · rw [fz_yes h] at ha ⊢
    exact dsub_ok _ _ _ _ s t w (ab_nn u) hu (ab_nn v) hv (ck_dz ht) _ _ ha
  · rw [fz_no h] at ha ⊢
    exact dsub_er _ _ _ _ s t w (ab_nn u) hu (ab_nn v) hv (ck_dz ht) _ ha
theorem sub_no (bu bv : Bool) (n m s t : Int) (w : World) (hn0 : 0 ≤ n) (hn : n < MM) (hm0 : 0 ≤ m) (hm : m < MM) (h : ¬ (ck bu n s = 0 ∧ ck bv m t = 0)) :
    Calls Try.prog 37 #[dc bu n s, dc bv m t] w fun e' w' => e' = .returned (er 20) ∧ Mo w w' := by
  by_cases h2 : ck bv m t = 0
  · refine dsub_er bu bv n m s t w hn0 hn hm0 hm h2 20 (fun w => add_no _ _ _ _ _ _ w hn0 hn hm0 hm ?_)
    intro hh; exact h ⟨hh.1, h2⟩
  · exact dsub_no bu bv n m s t w hn0 hn hm0 hm h2
theorem cmp_z (u s v t : Int) (w : World) (hu : ab u < MM) (hv : ab v < MM) (hs : sc s = true) (ht : sc t = true) :
    Calls Try.prog 51 #[dz u s, dz v t] w fun e w' => e = .returned (.int .i64 (cm (u * pw (max s t - s)) (v * pw (max s t - t)))) ∧ Mo w w' := by
  obtain ⟨s0, s1⟩ := sc_iff.1 hs
  obtain ⟨t0, t1⟩ := sc_iff.1 ht
  obtain ⟨S, hS⟩ : ∃ S, max s t = S := ⟨_, rfl⟩
  obtain ⟨i, hi⟩ : ∃ i : Nat, S - s = (i : Int) := ⟨(S - s).toNat, by omega⟩
  obtain ⟨j, hj⟩ : ∃ j : Nat, S - t = (j : Int) := ⟨(S - t).toNat, by omega⟩
  rw [hS, hi, hj, pw_nat, pw_nat]
  have pi : (0 : Int) < 10 ^ i := Int.pow_pos (by decide)
  have pj : (0 : Int) < 10 ^ j := Int.pow_pos (by decide)
  have eX := ab_mul (u := u) pi
  have eY := ab_mul (u := v) pj
  have nX := neg_mul_iff (u := u) pi
  have nY := neg_mul_iff (u := v) pj
  have zX : u * 10 ^ i = 0 ↔ ab u = 0 := by
    have c := ab_c u
    constructor
    · intro h; rcases Int.mul_eq_zero.1 h with h | h <;> omega
    · intro h; rw [show u = 0 by omega]; simp
  have zY : v * 10 ^ j = 0 ↔ ab v = 0 := by
    have c := ab_c v
    constructor
    · intro h; rcases Int.mul_eq_zero.1 h with h | h <;> omega
    · intro h; rw [show v = 0 by omega]; simp
  have sX : sg (decide (u < 0)) (ab u) = if u * 10 ^ i = 0 then 0 else if u * 10 ^ i < 0 then -1 else 1 := by
    unfold sg; rw [← nX]; by_cases h : u * 10 ^ i = 0 <;> simp [h, zX.1] <;> simp [zX.symm, h]
  have sY : sg (decide (v < 0)) (ab v) = if v * 10 ^ j = 0 then 0 else if v * 10 ^ j < 0 then -1 else 1 := by
    unfold sg; rw [← nY]; by_cases h : v * 10 ^ j = 0 <;> simp [h, zY.1] <;> simp [zY.symm, h]
  generalize hA : u * 10 ^ i = A at *
  generalize hB : v * 10 ^ j = B at *
  have cA := ab_c A
  have cB := ab_c B
  by_cases ho : cm (sg (decide (u < 0)) (ab u)) (sg (decide (v < 0)) (ab v)) = 0
  · have hsg : sg (decide (u < 0)) (ab u) = sg (decide (v < 0)) (ab v) := by unfold cm at ho; split at ho <;> (try split at ho) <;> omega
    rw [sX, sY] at hsg
    have hneg : (A < 0 ↔ B < 0) := by split at hsg <;> split at hsg <;> (try split at hsg) <;> (try split at hsg) <;> omega
    by_cases hb : u < 0
    · have hA0 : A < 0 := by have := nX; simp [hb] at this; exact this
      have := dcmp_neg (decide (u < 0)) (decide (v < 0)) (ab u) (ab v) s t w (ab_nn u) hu (ab_nn v) hv (ck_dz hs) (ck_dz ht) S i j hS hi hj (by omega) (by omega) (decide_eq_true hb) ho
      rw [eX, eY] at this
      have e : -(cm (ab A) (ab B)) = cm A B := by unfold cm; split <;> (try split) <;> (try split) <;> (try split) <;> omega
      rw [e] at this
      exact this
    · have hA0 : ¬ A < 0 := by have := nX; simp [hb] at this; omega
      have := dcmp_pos (decide (u < 0)) (decide (v < 0)) (ab u) (ab v) s t w (ab_nn u) hu (ab_nn v) hv (ck_dz hs) (ck_dz ht) S i j hS hi hj (by omega) (by omega) (decide_eq_false hb) ho
      rw [eX, eY] at this
      have e : cm (ab A) (ab B) = cm A B := by rw [show ab A = A by omega, show ab B = B by omega]
      rw [e] at this
      exact this
  · have := dcmp_ne (decide (u < 0)) (decide (v < 0)) (ab u) (ab v) s t w (ab_nn u) hu (ab_nn v) hv (ck_dz hs) (ck_dz ht) ho
    have e : cm (sg (decide (u < 0)) (ab u)) (sg (decide (v < 0)) (ab v)) = cm A B := by
      rw [sX, sY] at ho ⊢
      unfold cm at *
      by_cases a0 : A = 0 <;> by_cases b0 : B = 0 <;> by_cases a1 : A < 0 <;> by_cases b1 : B < 0 <;> simp [a0, b0, a1, b1] at ho ⊢ <;> (try split) <;> (try split) <;> omega
    rw [e] at this
    exact this
theorem mul_z (u s v t : Int) (w : World) (hu : ab u < MM) (hv : ab v < MM) (hs : sc s = true) (ht : sc t = true) :
    Calls Try.prog 39 #[dz u s, dz v t] w fun e w' => e = .returned (if sc (s + t) then fz (u * v) (s + t) else er 21) ∧ Mo w w' := by
  have hm : sv (decide (u < 0) != decide (v < 0)) (ab u * ab v) = u * v := by
    have cu := ab_c u
    have cv := ab_c v
    unfold sv
    rcases cu with ⟨a, a2⟩ | ⟨a, a2⟩ <;> rcases cv with ⟨b, b2⟩ | ⟨b, b2⟩
    · simp [a, b, a2, b2, Int.neg_mul_neg]
    · simp [a, show ¬ v < 0 by omega, a2, b2, Int.neg_mul]
    · simp [b, show ¬ u < 0 by omega, a2, b2, Int.mul_neg]
    · simp [show ¬ u < 0 by omega, show ¬ v < 0 by omega, a2, b2]
  have hab : ab (u * v) = ab u * ab v := by
    rw [← hm]; exact ab_sv (Int.mul_nonneg (ab_nn u) (ab_nn v))
  cases hst : sc (s + t) with
  | false => exact dmul_sc _ _ _ _ s t w (ab_nn u) hu (ab_nn v) hv (ck_dz hs) (ck_dz ht) (sc_iff.1 hs) (sc_iff.1 ht) hst
  | true =>
    by_cases hr : ab u * ab v < MM
    · have := dmul_room _ _ _ _ s t w (ab_nn u) hu (ab_nn v) hv (ck_dz hs) (ck_dz ht) (sc_iff.1 hs) (sc_iff.1 ht) hst hr
      rw [hm] at this
      rw [if_pos rfl, fz_yes (by rw [hab]; exact hr)]
      exact this
    · have := dmul_full _ _ _ _ s t w (ab_nn u) hu (ab_nn v) hv (ck_dz hs) (ck_dz ht) (sc_iff.1 hs) (sc_iff.1 ht) hst (by omega)
      rw [if_pos rfl, fz_no (by rw [hab]; exact hr)]
      exact this
/-- A number rounded to another scale. -/
def rsV (u s S p : Int) : Int := if S < s then sv (decide (u < 0)) (ro (decide (u < 0)) (ab u) (s - S).toNat p) else u * pw (S - s)
theorem rescale_z (u s S p : Int) (w : World) (hu : ab u < MM) (hs : sc s = true) (hS : sc S = true) (hp1 : 1 ≤ p) (hp5 : p ≤ 5) :
    Calls Try.prog 43 #[dz u s, .int .i64 S, .int .i64 p] w fun e w' => e = .returned (fz (rsV u s S p) S) ∧ Mo w w' := by
  obtain ⟨s0, s1⟩ := sc_iff.1 hs
  obtain ⟨S0, S1⟩ := sc_iff.1 hS
  have h1M : (1 : Int) < MM := by decide
  have c1 : ck false 1 0 = 0 := by decide
  have hx : (decide (u < 0) != false) = decide (u < 0) := by simp
  unfold rsV
  by_cases hlt : S < s
  · rw [if_pos hlt]
    obtain ⟨f, hf⟩ : ∃ f : Nat, s - S = (f : Int) := ⟨(s - S).toNat, by omega⟩
    rw [hf, Int.toNat_natCast]
    have r0 := ro_nn (b := decide (u < 0)) (k := f) (p := p) (ab_nn u)
    by_cases hr : ro (decide (u < 0)) (ab u) f p < MM
    · rw [fz_yes (by rw [ab_sv r0]; exact hr)]
      refine rescale_ok _ _ s S p _ w (fun w => ?_)
      have := mulTo_dn_room (decide (u < 0)) false (ab u) 1 s 0 S p w (ab_nn u) hu (by decide) h1M (ck_dz hs) c1 hS hp1 hp5 f (by omega) (by omega) (by omega) ⟨s0, s1⟩ (by decide) (by rw [hx, Int.mul_one]; exact hr)
      rw [hx, Int.mul_one] at this
      exact this
    · rw [fz_no (by rw [ab_sv r0]; exact hr)]
      refine rescale_er _ _ s S p _ w (fun w => ?_)
      exact mulTo_dn_full (decide (u < 0)) false (ab u) 1 s 0 S p w (ab_nn u) hu (by decide) h1M (ck_dz hs) c1 hS hp1 hp5 f (by omega) (by omega) (by omega) ⟨s0, s1⟩ (by decide) (by rw [hx, Int.mul_one]; omega)
  · rw [if_neg hlt]
    obtain ⟨g, hg⟩ : ∃ g : Nat, S - s = (g : Int) := ⟨(S - s).toNat, by omega⟩
    rw [hg, pw_nat]
    have pg : (0 : Int) < 10 ^ g := Int.pow_pos (by decide)
    have eX := ab_mul (u := u) pg
    have hsv : sv (decide (u < 0)) (ab u * 10 ^ g) = u * 10 ^ g := by
      rw [eX]
      have nX := neg_mul_iff (u := u) pg
      rw [← nX]
      have c := ab_c (u * 10 ^ g)
      unfold sv
      rcases c with ⟨a, b⟩ | ⟨a, b⟩
      · rw [decide_eq_true a, b]; simp
      · rw [decide_eq_false (by omega), b]; simp
    by_cases hr : ab u * 10 ^ g < MM
    · rw [fz_yes (by rw [← eX]; exact hr)]
      refine rescale_ok _ _ s S p _ w (fun w => ?_)
      have := mulTo_up_room (decide (u < 0)) false (ab u) 1 s 0 S p w (ab_nn u) hu (by decide) h1M (ck_dz hs) c1 hS hp1 hp5 g (by omega) (by omega) ⟨s0, s1⟩ (by decide) (by rw [Int.mul_one]; exact hu) (by rw [Int.mul_one]; exact hr)
      rw [hx, Int.mul_one, hsv] at this
      exact this
    · rw [fz_no (by rw [← eX]; exact hr)]
      refine rescale_er _ _ s S p _ w (fun w => ?_)
      exact mulTo_up_full (decide (u < 0)) false (ab u) 1 s 0 S p w (ab_nn u) hu (by decide) h1M (ck_dz hs) c1 hS hp1 hp5 g (by omega) (by omega) ⟨s0, s1⟩ (by decide) (by rw [Int.mul_one]; exact hu) (by rw [Int.mul_one]; omega)
theorem rescale_e1 (b : Bool) (n s S p : Int) (w : World) (hn0 : 0 ≤ n) (hn : n < MM) (h : ck b n s ≠ 0) :
    Calls Try.prog 43 #[dc b n s, .int .i64 S, .int .i64 p] w fun e w' => e = .returned (er 20) ∧ Mo w w' :=
  rescale_er b n s S p 20 w (fun w => mulTo_e1 b false n 1 s 0 S p w hn0 hn (by decide) (by decide) (fun hh => h hh.1))
theorem rescale_e2 (b : Bool) (n s S p : Int) (w : World) (hn0 : 0 ≤ n) (hn : n < MM) (h : ck b n s = 0) (hS : sc S = false) :
    Calls Try.prog 43 #[dc b n s, .int .i64 S, .int .i64 p] w fun e w' => e = .returned (er 21) ∧ Mo w w' :=
  rescale_er b n s S p 21 w (fun w => mulTo_e2 b false n 1 s 0 S p w hn0 hn (by decide) (by decide) h (by decide) hS)
theorem rescale_e3 (b : Bool) (n s S p : Int) (w : World) (hn0 : 0 ≤ n) (hn : n < MM) (h : ck b n s = 0) (hS : sc S = true) (hp : p < 1 ∨ 5 < p) :
    Calls Try.prog 43 #[dc b n s, .int .i64 S, .int .i64 p] w fun e w' => e = .returned (er 22) ∧ Mo w w' :=
  rescale_er b n s S p 22 w (fun w => mulTo_e3 b false n 1 s 0 S p w hn0 hn (by decide) (by decide) h (by decide) hS hp)
end Go.Proofs.Ytoiiekmkcpcbgaa
/-
  exciselaw02.begun answers true.
-/
namespace Go.Proofs.Ytoiiekmkcpcbgaa
open Go.RowKit
theorem bg1 (w : World) : Calls Try.prog 26 #[.int .i64 15, .int .i64 1] w fun e w' => e = .returned (.tuple #[dc false 15 1, .int .i64 0]) ∧ Mo w w' := ofInt_ok 15 1 w rfl (by decide) (by decide)
theorem bg2 (w : World) : Calls Try.prog 26 #[.int .i64 (-225), .int .i64 2] w fun e w' => e = .returned (.tuple #[dc true 225 2, .int .i64 0]) ∧ Mo w w' := ofInt_ok (-225) 2 w rfl (by decide) (by decide)
theorem bg3 (w : World) : Calls Try.prog 35 #[dc false 15 1, dc true 225 2] w fun e w' => e = .returned (.tuple #[dc true 75 2, .int .i64 0]) ∧ Mo w w' := by
  have h := add_z 15 1 (-225) 2 w (by decide) (by decide) rfl rfl
  rw [show addV 15 1 (-225) 2 = -75 from by decide, show max (1 : Int) 2 = 2 from rfl, fz_yes (by decide)] at h
  exact h
theorem bg4 (w : World) : Calls Try.prog 43 #[dc true 75 2, .int .i64 1, .int .i64 1] w fun e w' => e = .returned (.tuple #[dc true 8 1, .int .i64 0]) ∧ Mo w w' := by
  have h := rescale_z (-75) 2 1 1 w (by decide) rfl rfl (by decide) (by decide)
  rw [show rsV (-75) 2 1 1 = -8 from by decide, fz_yes (by decide)] at h
  exact h
theorem guard_run {op : BinOp} {ty : TypeId} {a b : Array Value} {w : World} (x y : Operand) (hg : Try.prog.eqGuardType Try.prog.depth ty = false) : (eqGuard op ty x y (.agg a) (.agg b)).run Try.prog w = .ok () w := by
  unfold eqGuard
  cases op <;> simp [hg]
theorem eqa_run {ty : TypeId} {a b : Array Value} {r : Bool} {w : World} (hg : Try.prog.eqGuardType Try.prog.depth ty = false) (q : (Op.equalIn 10000 ty (.agg a) (.agg b)).run Try.prog w = .ok r w) (x y : Operand) :
    (do eqGuard .eql ty x y (.agg a) (.agg b); binOp .eql ty (.agg a) (.agg b)).run Try.prog w = .ok (.bool r) w := by
  have e : binOp .eql ty (.agg a) (.agg b) = (do pure (.bool (← Op.equalIn 10000 ty (.agg a) (.agg b)))) := rfl
  rw [Sem.run_bind, guard_run x y hg, e, Result.andThen_ok, Sem.run_bind, q]; rfl
theorem nea_run {ty : TypeId} {a b : Array Value} {r : Bool} {w : World} (hg : Try.prog.eqGuardType Try.prog.depth ty = false) (q : (Op.equalIn 10000 ty (.agg a) (.agg b)).run Try.prog w = .ok r w) (x y : Operand) :
    (do eqGuard .neq ty x y (.agg a) (.agg b); binOp .neq ty (.agg a) (.agg b)).run Try.prog w = .ok (.bool (!r)) w := by
  have e : binOp .neq ty (.agg a) (.agg b) = (do pure (.bool (!(← Op.equalIn 10000 ty (.agg a) (.agg b))))) := rfl
  rw [Sem.run_bind, guard_run x y hg, e, Result.andThen_ok, Sem.run_bind, q]; rfl
theorem gt40 : Try.prog.eqGuardType Try.prog.depth 40 = false := by kernel_rfl
theorem gt24 : Try.prog.eqGuardType Try.prog.depth 24 = false := by kernel_rfl
/-- == of two decimals. -/
theorem eqd_run {b c : Bool} {n0 n1 n2 n3 m0 m1 m2 m3 s t : Int} {r : Bool} (h : (b == c && (n0 == m0 && (n1 == m1 && (n2 == m2 && (n3 == m3 && s == t))))) = r) (x y : Operand) (w : World) :
    (do eqGuard .eql 40 x y (.agg #[.bool b, .int .u64 n0, .int .u64 n1, .int .u64 n2, .int .u64 n3, .int .i64 s]) (.agg #[.bool c, .int .u64 m0, .int .u64 m1, .int .u64 m2, .int .u64 m3, .int .i64 t]); binOp .eql 40 (.agg #[.bool b, .int .u64 n0, .int .u64 n1, .int .u64 n2, .int .u64 n3, .int .i64 s]) (.agg #[.bool c, .int .u64 m0, .int .u64 m1, .int .u64 m2, .int .u64 m3, .int .i64 t])).run Try.prog w = .ok (.bool r) w :=
  eqa_run gt40 (by rw [← h]; exact eq40 b c n0 n1 n2 n3 m0 m1 m2 m3 s t w) x y
theorem ned_run {b c : Bool} {n0 n1 n2 n3 m0 m1 m2 m3 s t : Int} {r : Bool} (h : (b == c && (n0 == m0 && (n1 == m1 && (n2 == m2 && (n3 == m3 && s == t))))) = r) (x y : Operand) (w : World) :
    (do eqGuard .neq 40 x y (.agg #[.bool b, .int .u64 n0, .int .u64 n1, .int .u64 n2, .int .u64 n3, .int .i64 s]) (.agg #[.bool c, .int .u64 m0, .int .u64 m1, .int .u64 m2, .int .u64 m3, .int .i64 t]); binOp .neq 40 (.agg #[.bool b, .int .u64 n0, .int .u64 n1, .int .u64 n2, .int .u64 n3, .int .i64 s]) (.agg #[.bool c, .int .u64 m0, .int .u64 m1, .int .u64 m2, .int .u64 m3, .int .i64 t])).run Try.prog w = .ok (.bool (!r)) w :=
  nea_run gt40 (by rw [← h]; exact eq40 b c n0 n1 n2 n3 m0 m1 m2 m3 s t w) x y
theorem eqn_run {n0 n1 n2 n3 m0 m1 m2 m3 : Int} {r : Bool} (h : (n0 == m0 && (n1 == m1 && (n2 == m2 && n3 == m3))) = r) (x y : Operand) (w : World) :
    (do eqGuard .eql 24 x y (.agg #[.int .u64 n0, .int .u64 n1, .int .u64 n2, .int .u64 n3]) (.agg #[.int .u64 m0, .int .u64 m1, .int .u64 m2, .int .u64 m3]); binOp .eql 24 (.agg #[.int .u64 n0, .int .u64 n1, .int .u64 n2, .int .u64 n3]) (.agg #[.int .u64 m0, .int .u64 m1, .int .u64 m2, .int .u64 m3])).run Try.prog w = .ok (.bool r) w :=
  eqa_run gt24 (by rw [← h]; exact eq4 n0 n1 n2 n3 m0 m1 m2 m3 w) x y
theorem nen_run {n0 n1 n2 n3 m0 m1 m2 m3 : Int} {r : Bool} (h : (n0 == m0 && (n1 == m1 && (n2 == m2 && n3 == m3))) = r) (x y : Operand) (w : World) :
    (do eqGuard .neq 24 x y (.agg #[.int .u64 n0, .int .u64 n1, .int .u64 n2, .int .u64 n3]) (.agg #[.int .u64 m0, .int .u64 m1, .int .u64 m2, .int .u64 m3]); binOp .neq 24 (.agg #[.int .u64 n0, .int .u64 n1, .int .u64 n2, .int .u64 n3]) (.agg #[.int .u64 m0, .int .u64 m1, .int .u64 m2, .int .u64 m3])).run Try.prog w = .ok (.bool (!r)) w :=
  nea_run gt24 (by rw [← h]; exact eq4 n0 n1 n2 n3 m0 m1 m2 m3 w) x y
theorem self6 (b : Bool) (n0 n1 n2 n3 s : Int) : (b == b && (n0 == n0 && (n1 == n1 && (n2 == n2 && (n3 == n3 && s == s))))) = true := by simp
theorem begun_n (w : World) : Calls Try.prog 28 #[] w fun e' w' => e' = .returned (.bool true) ∧ Mo w w' := by
  refine w_enter 54 Try.func28 Try.ntmps28 rfl rfl ?_
  have M : Mo w w := Mo.refl _
  refine w_seq ?_
  refine w_reg ?_
  refine wl_mv (.const (.bool false)) (.bool false) (fun _ => rfl) rfl rfl ?_
  refine w_nil ?_
  refine xn_then ?_
  refine w_seq ?_
  refine w_reg ?_
  refine wl_call 26 [(.const (.int .i64 (15))), (.const (.int .i64 (1)))] _ [.int .i64 (15), .int .i64 (1)] (.tuple #[.agg #[.bool false, .int .u64 (l0 (15)), .int .u64 (l1 (15)), .int .u64 (l2 (15)), .int .u64 (l3 (15)), .int .i64 (1)], .int .i64 (0)]) rfl rfl (fun _ _ => by kernel_rfl) (bg1 _) rfl ?_
  intro w1 hq
  replace M := M.trans hq
  clear hq
  refine wl_mv (.tmp 10) (.tuple #[.agg #[.bool false, .int .u64 (l0 (15)), .int .u64 (l1 (15)), .int .u64 (l2 (15)), .int .u64 (l3 (15)), .int .i64 (1)], .int .i64 (0)]) (fun _ => rfl) rfl rfl ?_
  refine wl_un (fun v => Instr.extract v 0) (.tmp 9) (.tuple #[.agg #[.bool false, .int .u64 (l0 (15)), .int .u64 (l1 (15)), .int .u64 (l2 (15)), .int .u64 (l3 (15)), .int .i64 (1)], .int .i64 (0)]) (.agg #[.bool false, .int .u64 (l0 (15)), .int .u64 (l1 (15)), .int .u64 (l2 (15)), .int .u64 (l3 (15)), .int .i64 (1)]) (fun _ => rfl) rfl (by kernel_rfl) rfl ?_
  refine wl_un (fun v => Instr.extract v 1) (.tmp 9) (.tuple #[.agg #[.bool false, .int .u64 (l0 (15)), .int .u64 (l1 (15)), .int .u64 (l2 (15)), .int .u64 (l3 (15)), .int .i64 (1)], .int .i64 (0)]) (.int .i64 (0)) (fun _ => rfl) rfl (by kernel_rfl) rfl ?_
  refine wl_alloc 40 #[.bool false, .int .u64 0, .int .u64 0, .int .u64 0, .int .u64 0, .int .i64 0] rfl (fun _ => by kernel_rfl) rfl ?_
  intro k1 w2 hk hz hq Q1
  have N_k1 : w.heap.size ≤ k1 := by have := M.size; omega
  replace M := M.trans hq
  clear hk hz hq
  refine wl_st 40 (.tmp 1) (.tmp 11) k1 0 #[.bool false, .int .u64 (l0 (15)), .int .u64 (l1 (15)), .int .u64 (l2 (15)), .int .u64 (l3 (15)), .int .i64 (1)] [.bool false, .int .u64 0, .int .u64 0, .int .u64 0, .int .u64 0, .int .i64 0] [.bool false, .int .u64 (l0 (15)), .int .u64 (l1 (15)), .int .u64 (l2 (15)), .int .u64 (l3 (15)), .int .i64 (1)] Q1 rfl rfl rfl rfl rfl sz40 rfl rfl rfl ?_
  intro w3 hS Qn
  replace Q1 := Qn
  clear Qn
  replace M := hS.mo _ N_k1 M
  clear hS
  refine wl_mv (.tmp 12) (.int .i64 (0)) (fun _ => rfl) rfl rfl ?_
  refine w_nil ?_
  refine xn_then ?_
  refine w_seq ?_
  refine w_reg ?_
  refine wl_call 26 [(.const (.int .i64 (-225))), (.const (.int .i64 (2)))] _ [.int .i64 (-225), .int .i64 (2)] (.tuple #[.agg #[.bool true, .int .u64 (l0 (225)), .int .u64 (l1 (225)), .int .u64 (l2 (225)), .int .u64 (l3 (225)), .int .i64 (2)], .int .i64 (0)]) rfl rfl (fun _ _ => by kernel_rfl) (bg2 _) rfl ?_
  intro w4 hq
  replace Q1 := Q1.mo hq
  replace M := M.trans hq
  clear hq
  refine wl_mv (.tmp 14) (.tuple #[.agg #[.bool true, .int .u64 (l0 (225)), .int .u64 (l1 (225)), .int .u64 (l2 (225)), .int .u64 (l3 (225)), .int .i64 (2)], .int .i64 (0)]) (fun _ => rfl) rfl rfl ?_
  refine wl_un (fun v => Instr.extract v 0) (.tmp 13) (.tuple #[.agg #[.bool true, .int .u64 (l0 (225)), .int .u64 (l1 (225)), .int .u64 (l2 (225)), .int .u64 (l3 (225)), .int .i64 (2)], .int .i64 (0)]) (.agg #[.bool true, .int .u64 (l0 (225)), .int .u64 (l1 (225)), .int .u64 (l2 (225)), .int .u64 (l3 (225)), .int .i64 (2)]) (fun _ => rfl) rfl (by kernel_rfl) rfl ?_
  refine wl_un (fun v => Instr.extract v 1) (.tmp 13) (.tuple #[.agg #[.bool true, .int .u64 (l0 (225)), .int .u64 (l1 (225)), .int .u64 (l2 (225)), .int .u64 (l3 (225)), .int .i64 (2)], .int .i64 (0)]) (.int .i64 (0)) (fun _ => rfl) rfl (by kernel_rfl) rfl ?_
  refine wl_alloc 40 #[.bool false, .int .u64 0, .int .u64 0, .int .u64 0, .int .u64 0, .int .i64 0] rfl (fun _ => by kernel_rfl) rfl ?_
  intro k2 w5 hk hz hq Q2
  have ne_k1_k2 : k1 ≠ k2 := by have := Q1.lt; omega
  have N_k2 : w.heap.size ≤ k2 := by have := M.size; omega
  replace Q1 := Q1.mo hq
  replace M := M.trans hq
  clear hk hz hq
  refine wl_st 40 (.tmp 3) (.tmp 15) k2 0 #[.bool true, .int .u64 (l0 (225)), .int .u64 (l1 (225)), .int .u64 (l2 (225)), .int .u64 (l3 (225)), .int .i64 (2)] [.bool false, .int .u64 0, .int .u64 0, .int .u64 0, .int .u64 0, .int .i64 0] [.bool true, .int .u64 (l0 (225)), .int .u64 (l1 (225)), .int .u64 (l2 (225)), .int .u64 (l3 (225)), .int .i64 (2)] Q2 rfl rfl rfl rfl rfl sz40 rfl rfl rfl ?_
  intro w6 hS Qn
  replace Q2 := Qn
  clear Qn
  replace Q1 := hS.other _ _ ne_k1_k2 Q1
  replace M := hS.mo _ N_k2 M
  clear hS
  refine wl_mv (.tmp 16) (.int .i64 (0)) (fun _ => rfl) rfl rfl ?_
  refine w_nil ?_
  refine xn_then ?_
  refine w_seq ?_
  refine w_reg ?_
  refine wl_load 40 (.tmp 1) (pt k1 0) (.agg #[.bool false, .int .u64 (l0 (15)), .int .u64 (l1 (15)), .int .u64 (l2 (15)), .int .u64 (l3 (15)), .int .i64 (1)]) rfl rfl (run_row Q1 40 0 6 [.bool false, .int .u64 (l0 (15)), .int .u64 (l1 (15)), .int .u64 (l2 (15)), .int .u64 (l3 (15)), .int .i64 (1)] rfl Try.underlying40 rfl sz40) rfl ?_
  refine wl_load 40 (.tmp 3) (pt k2 0) (.agg #[.bool true, .int .u64 (l0 (225)), .int .u64 (l1 (225)), .int .u64 (l2 (225)), .int .u64 (l3 (225)), .int .i64 (2)]) rfl rfl (run_row Q2 40 0 6 [.bool true, .int .u64 (l0 (225)), .int .u64 (l1 (225)), .int .u64 (l2 (225)), .int .u64 (l3 (225)), .int .i64 (2)] rfl Try.underlying40 rfl sz40) rfl ?_
  refine wl_call 35 [(.tmp 18), (.tmp 19)] _ [.agg #[.bool false, .int .u64 (l0 (15)), .int .u64 (l1 (15)), .int .u64 (l2 (15)), .int .u64 (l3 (15)), .int .i64 (1)], .agg #[.bool true, .int .u64 (l0 (225)), .int .u64 (l1 (225)), .int .u64 (l2 (225)), .int .u64 (l3 (225)), .int .i64 (2)]] (.tuple #[.agg #[.bool true, .int .u64 (l0 (75)), .int .u64 (l1 (75)), .int .u64 (l2 (75)), .int .u64 (l3 (75)), .int .i64 (2)], .int .i64 (0)]) rfl rfl (fun _ _ => by kernel_rfl) (bg3 _) rfl ?_
  intro w7 hq
  replace Q1 := Q1.mo hq
  replace Q2 := Q2.mo hq
  replace M := M.trans hq
  clear hq
  refine wl_mv (.tmp 20) (.tuple #[.agg #[.bool true, .int .u64 (l0 (75)), .int .u64 (l1 (75)), .int .u64 (l2 (75)), .int .u64 (l3 (75)), .int .i64 (2)], .int .i64 (0)]) (fun _ => rfl) rfl rfl ?_
  refine wl_un (fun v => Instr.extract v 0) (.tmp 17) (.tuple #[.agg #[.bool true, .int .u64 (l0 (75)), .int .u64 (l1 (75)), .int .u64 (l2 (75)), .int .u64 (l3 (75)), .int .i64 (2)], .int .i64 (0)]) (.agg #[.bool true, .int .u64 (l0 (75)), .int .u64 (l1 (75)), .int .u64 (l2 (75)), .int .u64 (l3 (75)), .int .i64 (2)]) (fun _ => rfl) rfl (by kernel_rfl) rfl ?_
  refine wl_un (fun v => Instr.extract v 1) (.tmp 17) (.tuple #[.agg #[.bool true, .int .u64 (l0 (75)), .int .u64 (l1 (75)), .int .u64 (l2 (75)), .int .u64 (l3 (75)), .int .i64 (2)], .int .i64 (0)]) (.int .i64 (0)) (fun _ => rfl) rfl (by kernel_rfl) rfl ?_
  refine wl_alloc 40 #[.bool false, .int .u64 0, .int .u64 0, .int .u64 0, .int .u64 0, .int .i64 0] rfl (fun _ => by kernel_rfl) rfl ?_
  intro k3 w8 hk hz hq Q3
  have ne_k1_k3 : k1 ≠ k3 := by have := Q1.lt; omega
  have ne_k2_k3 : k2 ≠ k3 := by have := Q2.lt; omega
  have N_k3 : w.heap.size ≤ k3 := by have := M.size; omega
  replace Q1 := Q1.mo hq
  replace Q2 := Q2.mo hq
  replace M := M.trans hq
  clear hk hz hq
  refine wl_st 40 (.tmp 5) (.tmp 21) k3 0 #[.bool true, .int .u64 (l0 (75)), .int .u64 (l1 (75)), .int .u64 (l2 (75)), .int .u64 (l3 (75)), .int .i64 (2)] [.bool false, .int .u64 0, .int .u64 0, .int .u64 0, .int .u64 0, .int .i64 0] [.bool true, .int .u64 (l0 (75)), .int .u64 (l1 (75)), .int .u64 (l2 (75)), .int .u64 (l3 (75)), .int .i64 (2)] Q3 rfl rfl rfl rfl rfl sz40 rfl rfl rfl ?_
  intro w9 hS Qn
  replace Q3 := Qn
  clear Qn
  replace Q1 := hS.other _ _ ne_k1_k3 Q1
  replace Q2 := hS.other _ _ ne_k2_k3 Q2
  replace M := hS.mo _ N_k3 M
  clear hS
  refine wl_mv (.tmp 22) (.int .i64 (0)) (fun _ => rfl) rfl rfl ?_
  refine w_nil ?_
  refine xn_then ?_
  refine w_seq ?_
  refine w_reg ?_
  refine wl_load 40 (.tmp 5) (pt k3 0) (.agg #[.bool true, .int .u64 (l0 (75)), .int .u64 (l1 (75)), .int .u64 (l2 (75)), .int .u64 (l3 (75)), .int .i64 (2)]) rfl rfl (run_row Q3 40 0 6 [.bool true, .int .u64 (l0 (75)), .int .u64 (l1 (75)), .int .u64 (l2 (75)), .int .u64 (l3 (75)), .int .i64 (2)] rfl Try.underlying40 rfl sz40) rfl ?_
  refine wl_call 43 [(.tmp 24), (.const (.int .i64 (1))), (.const (.int .i64 (1)))] _ [.agg #[.bool true, .int .u64 (l0 (75)), .int .u64 (l1 (75)), .int .u64 (l2 (75)), .int .u64 (l3 (75)), .int .i64 (2)], .int .i64 (1), .int .i64 (1)] (.tuple #[.agg #[.bool true, .int .u64 (l0 (8)), .int .u64 (l1 (8)), .int .u64 (l2 (8)), .int .u64 (l3 (8)), .int .i64 (1)], .int .i64 (0)]) rfl rfl (fun _ _ => by kernel_rfl) (bg4 _) rfl ?_
  intro w10 hq
  replace Q1 := Q1.mo hq
  replace Q2 := Q2.mo hq
  replace Q3 := Q3.mo hq
  replace M := M.trans hq
  clear hq
  refine wl_mv (.tmp 25) (.tuple #[.agg #[.bool true, .int .u64 (l0 (8)), .int .u64 (l1 (8)), .int .u64 (l2 (8)), .int .u64 (l3 (8)), .int .i64 (1)], .int .i64 (0)]) (fun _ => rfl) rfl rfl ?_
  refine wl_un (fun v => Instr.extract v 0) (.tmp 23) (.tuple #[.agg #[.bool true, .int .u64 (l0 (8)), .int .u64 (l1 (8)), .int .u64 (l2 (8)), .int .u64 (l3 (8)), .int .i64 (1)], .int .i64 (0)]) (.agg #[.bool true, .int .u64 (l0 (8)), .int .u64 (l1 (8)), .int .u64 (l2 (8)), .int .u64 (l3 (8)), .int .i64 (1)]) (fun _ => rfl) rfl (by kernel_rfl) rfl ?_
  refine wl_un (fun v => Instr.extract v 1) (.tmp 23) (.tuple #[.agg #[.bool true, .int .u64 (l0 (8)), .int .u64 (l1 (8)), .int .u64 (l2 (8)), .int .u64 (l3 (8)), .int .i64 (1)], .int .i64 (0)]) (.int .i64 (0)) (fun _ => rfl) rfl (by kernel_rfl) rfl ?_
  refine wl_alloc 40 #[.bool false, .int .u64 0, .int .u64 0, .int .u64 0, .int .u64 0, .int .i64 0] rfl (fun _ => by kernel_rfl) rfl ?_
  intro k4 w11 hk hz hq Q4
  have ne_k1_k4 : k1 ≠ k4 := by have := Q1.lt; omega
  have ne_k2_k4 : k2 ≠ k4 := by have := Q2.lt; omega
  have ne_k3_k4 : k3 ≠ k4 := by have := Q3.lt; omega
  have N_k4 : w.heap.size ≤ k4 := by have := M.size; omega
  replace Q1 := Q1.mo hq
  replace Q2 := Q2.mo hq
  replace Q3 := Q3.mo hq
  replace M := M.trans hq
  clear hk hz hq
  refine wl_st 40 (.tmp 7) (.tmp 26) k4 0 #[.bool true, .int .u64 (l0 (8)), .int .u64 (l1 (8)), .int .u64 (l2 (8)), .int .u64 (l3 (8)), .int .i64 (1)] [.bool false, .int .u64 0, .int .u64 0, .int .u64 0, .int .u64 0, .int .i64 0] [.bool true, .int .u64 (l0 (8)), .int .u64 (l1 (8)), .int .u64 (l2 (8)), .int .u64 (l3 (8)), .int .i64 (1)] Q4 rfl rfl rfl rfl rfl sz40 rfl rfl rfl ?_
  intro w12 hS Qn
  replace Q4 := Qn
  clear Qn
  replace Q1 := hS.other _ _ ne_k1_k4 Q1
  replace Q2 := hS.other _ _ ne_k2_k4 Q2
  replace Q3 := hS.other _ _ ne_k3_k4 Q3
  replace M := hS.mo _ N_k4 M
  clear hS
  refine wl_mv (.tmp 27) (.int .i64 (0)) (fun _ => rfl) rfl rfl ?_
  refine w_nil ?_
  refine xn_then ?_
  refine w_seq ?_
  refine w_reg ?_
  refine wl_mv (.tmp 2) (.int .i64 (0)) (fun _ => rfl) rfl rfl ?_
  refine wl_bin (fun x y => do eqGuard .eql 32 (.tmp 28) (.const (.int .i64 (0))) x y; binOp .eql 32 x y) (.tmp 28) (.const (.int .i64 (0))) (.int .i64 (0)) (.int .i64 (0)) (.bool true) (fun _ => rfl) rfl rfl (by kernel_rfl) rfl ?_
  refine wl_mv (.tmp 29) (.bool true) (fun _ => rfl) rfl rfl ?_
  refine wl_mv (.tmp 4) (.int .i64 (0)) (fun _ => rfl) rfl rfl ?_
  refine wl_bin (fun x y => do eqGuard .eql 32 (.tmp 31) (.const (.int .i64 (0))) x y; binOp .eql 32 x y) (.tmp 31) (.const (.int .i64 (0))) (.int .i64 (0)) (.int .i64 (0)) (.bool true) (fun _ => rfl) rfl rfl (by kernel_rfl) rfl ?_
  refine wl_pick (.tmp 30) (.tmp 32) (.const (.bool false)) true (.bool true) (fun _ => rfl) rfl rfl rfl ?_
  refine wl_mv (.tmp 33) (.bool true) (fun _ => rfl) rfl rfl ?_
  refine wl_mv (.tmp 6) (.int .i64 (0)) (fun _ => rfl) rfl rfl ?_
  refine wl_bin (fun x y => do eqGuard .eql 32 (.tmp 35) (.const (.int .i64 (0))) x y; binOp .eql 32 x y) (.tmp 35) (.const (.int .i64 (0))) (.int .i64 (0)) (.int .i64 (0)) (.bool true) (fun _ => rfl) rfl rfl (by kernel_rfl) rfl ?_
  refine wl_pick (.tmp 34) (.tmp 36) (.const (.bool false)) true (.bool true) (fun _ => rfl) rfl rfl rfl ?_
  refine wl_mv (.tmp 37) (.bool true) (fun _ => rfl) rfl rfl ?_
  refine wl_mv (.tmp 8) (.int .i64 (0)) (fun _ => rfl) rfl rfl ?_
  refine wl_bin (fun x y => do eqGuard .eql 32 (.tmp 39) (.const (.int .i64 (0))) x y; binOp .eql 32 x y) (.tmp 39) (.const (.int .i64 (0))) (.int .i64 (0)) (.int .i64 (0)) (.bool true) (fun _ => rfl) rfl rfl (by kernel_rfl) rfl ?_
  refine wl_pick (.tmp 38) (.tmp 40) (.const (.bool false)) true (.bool true) (fun _ => rfl) rfl rfl rfl ?_
  refine wl_mv (.tmp 41) (.bool true) (fun _ => rfl) rfl rfl ?_
  refine wl_load 40 (.tmp 5) (pt k3 0) (.agg #[.bool true, .int .u64 (l0 (75)), .int .u64 (l1 (75)), .int .u64 (l2 (75)), .int .u64 (l3 (75)), .int .i64 (2)]) rfl rfl (run_row Q3 40 0 6 [.bool true, .int .u64 (l0 (75)), .int .u64 (l1 (75)), .int .u64 (l2 (75)), .int .u64 (l3 (75)), .int .i64 (2)] rfl Try.underlying40 rfl sz40) rfl ?_
  refine wl_build 24 [(0, (.const (.int .u64 (75))))] [(0, .int .u64 (75))] (.agg #[.int .u64 (75), .int .u64 0, .int .u64 0, .int .u64 0]) rfl rfl (by kernel_rfl) rfl ?_
  refine wl_build 40 [(0, (.const (.bool true))), (1, (.tmp 44)), (2, (.const (.int .i64 (2))))] [(0, .bool true), (1, .agg #[.int .u64 (75), .int .u64 0, .int .u64 0, .int .u64 0]), (2, .int .i64 (2))] (.agg #[.bool true, .int .u64 (75), .int .u64 0, .int .u64 0, .int .u64 0, .int .i64 (2)]) rfl rfl (by kernel_rfl) rfl ?_
  refine wl_bin (fun x y => do eqGuard .eql 40 (.tmp 43) (.tmp 45) x y; binOp .eql 40 x y) (.tmp 43) (.tmp 45) (.agg #[.bool true, .int .u64 (l0 (75)), .int .u64 (l1 (75)), .int .u64 (l2 (75)), .int .u64 (l3 (75)), .int .i64 (2)]) (.agg #[.bool true, .int .u64 (75), .int .u64 0, .int .u64 0, .int .u64 0, .int .i64 (2)]) (.bool true) (fun _ => rfl) rfl rfl (eqd_run rfl _ _ _) rfl ?_
  refine wl_pick (.tmp 42) (.tmp 46) (.const (.bool false)) true (.bool true) (fun _ => rfl) rfl rfl rfl ?_
  refine wl_mv (.tmp 47) (.bool true) (fun _ => rfl) rfl rfl ?_
  refine wl_load 40 (.tmp 7) (pt k4 0) (.agg #[.bool true, .int .u64 (l0 (8)), .int .u64 (l1 (8)), .int .u64 (l2 (8)), .int .u64 (l3 (8)), .int .i64 (1)]) rfl rfl (run_row Q4 40 0 6 [.bool true, .int .u64 (l0 (8)), .int .u64 (l1 (8)), .int .u64 (l2 (8)), .int .u64 (l3 (8)), .int .i64 (1)] rfl Try.underlying40 rfl sz40) rfl ?_
  refine wl_build 24 [(0, (.const (.int .u64 (8))))] [(0, .int .u64 (8))] (.agg #[.int .u64 (8), .int .u64 0, .int .u64 0, .int .u64 0]) rfl rfl (by kernel_rfl) rfl ?_
  refine wl_build 40 [(0, (.const (.bool true))), (1, (.tmp 50)), (2, (.const (.int .i64 (1))))] [(0, .bool true), (1, .agg #[.int .u64 (8), .int .u64 0, .int .u64 0, .int .u64 0]), (2, .int .i64 (1))] (.agg #[.bool true, .int .u64 (8), .int .u64 0, .int .u64 0, .int .u64 0, .int .i64 (1)]) rfl rfl (by kernel_rfl) rfl ?_
  refine wl_bin (fun x y => do eqGuard .eql 40 (.tmp 49) (.tmp 51) x y; binOp .eql 40 x y) (.tmp 49) (.tmp 51) (.agg #[.bool true, .int .u64 (l0 (8)), .int .u64 (l1 (8)), .int .u64 (l2 (8)), .int .u64 (l3 (8)), .int .i64 (1)]) (.agg #[.bool true, .int .u64 (8), .int .u64 0, .int .u64 0, .int .u64 0, .int .i64 (1)]) (.bool true) (fun _ => rfl) rfl rfl (eqd_run rfl _ _ _) rfl ?_
  refine wl_pick (.tmp 48) (.tmp 52) (.const (.bool false)) true (.bool true) (fun _ => rfl) rfl rfl rfl ?_
  refine wl_mv (.tmp 53) (.bool true) (fun _ => rfl) rfl rfl ?_
  refine w_nil ?_
  refine xn_then ?_
  refine w_ret ?_
  exact w_ret1 _ (.bool true) rfl rfl ⟨rfl, M⟩
end Go.Proofs.Ytoiiekmkcpcbgaa
/-
  An array of four limbs that came in: how it is opened and shut.
-/
namespace Go.Proofs.Ytoiiekmkcpcbgaa
open Go.ChangeShapes Go.WideShapes Go.ChangeAt Go.RowKit
theorem Try.own : ownKnob Try.prog.godebug = none := by kernel_rfl
theorem Try.cl22 : Try.prog.cellsOf 22 = 1 := by kernel_rfl
theorem Try.cl24 : Try.prog.cellsOf 24 = 4 := by kernel_rfl
theorem wf_u1 {x : Int} (h : (Lit.int .u64 x).wf = true) : U1 x := by
  simp [Lit.wf, IntKind.min, IntKind.max, IntKind.signed, IntKind.bits] at h
  exact ⟨by omega, by omega⟩
set_option maxRecDepth 100000 in
theorem open_nat {H : Type} {enc : TypeId × Value → H} {W : World} {base : Nat} {v : Value} {d : DataW H} {p : List MemPlace} (hv : Value.okWide Try.prog W .any base 24 v) (h : DataW.Trod enc Try.prog W 0 (fun _ => true) true 24 v d p) :
    ∃ x0 x1 x2 x3 : Int, v = .agg #[.int .u64 x0, .int .u64 x1, .int .u64 x2, .int .u64 x3] ∧ d = .agg [.lit (.int .u64 x0), .lit (.int .u64 x1), .lit (.int .u64 x2), .lit (.int .u64 x3)] ∧ p = [] ∧ U4 x0 x1 x2 x3 ∧
      ∀ (W' : World) (sp : Nat → Bool), DataW.Trod enc Try.prog W' 0 sp true 24 v d [] := by
  obtain ⟨cs, rfl, hsz, _⟩ : ∃ cs, v = .agg cs ∧ cs.size = Try.prog.cellsOf 24 ∧ Row.okWide Try.prog W .any base 24 cs := by
    simpa [Value.okWide, Try.underlying24] using hv
  rw [Try.cl24] at hsz
  obtain ⟨c0, c1, c2, c3, rfl⟩ := Go.Joins.array4 hsz
  obtain ⟨fuel, hf⟩ := h
  obtain ⟨xs, m, rfl, hx, _, hn, hi⟩ := DataW.trod_array Try.underlying24 hf
  have i0 := hi 0 (by decide)
  have i1 := hi 1 (by decide)
  have i2 := hi 2 (by decide)
  have i3 := hi 3 (by decide)
  simp only [Try.cl22, Value.cells] at i0 i1 i2 i3
  obtain ⟨y0, y1, y2, y3, rfl⟩ : ∃ y0 y1 y2 y3, xs = [y0, y1, y2, y3] := by
    match xs, hn with
    | [a, b, c, d], _ => exact ⟨a, b, c, d, rfl⟩
  simp at i0 i1 i2 i3
  obtain ⟨x0, e0, rfl, w0⟩ := DataW.trod_int Try.underlying22 i0
  obtain ⟨x1, e1, rfl, w1⟩ := DataW.trod_int Try.underlying22 i1
  obtain ⟨x2, e2, rfl, w2⟩ := DataW.trod_int Try.underlying22 i2
  obtain ⟨x3, e3, rfl, w3⟩ := DataW.trod_int Try.underlying22 i3
  simp at e0 e1 e2 e3
  subst e0 e1 e2 e3
  simp at hx
  obtain ⟨rfl, rfl⟩ := hx
  refine ⟨x0, x1, x2, x3, rfl, rfl, rfl, ⟨wf_u1 w0, wf_u1 w1, wf_u1 w2, wf_u1 w3⟩, fun W' sp => ⟨2, ?_⟩⟩
  simp [DataW.trod, Value.cells, Try.underlying24, Try.underlying22, Try.cl24, Try.cl22, w0, w1, w2, w3, show List.range 4 = [0, 1, 2, 3] from rfl]
end Go.Proofs.Ytoiiekmkcpcbgaa
/-
  A decimal that came in: how it is opened and shut.
-/
namespace Go.Proofs.Ytoiiekmkcpcbgaa
open Go.ChangeShapes Go.WideShapes Go.ChangeAt Go.RowKit
theorem Try.cl40 : Try.prog.cellsOf 40 = 6 := by kernel_rfl
theorem Try.cl4 : Try.prog.cellsOf 4 = 1 := by kernel_rfl
theorem Try.cl3 : Try.prog.cellsOf 3 = 1 := by kernel_rfl
theorem wf_i1 {x : Int} (h : (Lit.int .i64 x).wf = true) : -9223372036854775808 ≤ x ∧ x < 9223372036854775808 := by
  simp [Lit.wf, IntKind.min, IntKind.max, IntKind.signed, IntKind.bits] at h
  exact ⟨by omega, by omega⟩
set_option maxRecDepth 100000 in
theorem open_dec {H : Type} {enc : TypeId × Value → H} {W : World} {base : Nat} {v : Value} {d : DataW H} {p : List MemPlace} (hv : Value.okWide Try.prog W .any base 40 v) (h : DataW.Trod enc Try.prog W 0 (fun _ => true) true 40 v d p) :
    ∃ (b : Bool) (x0 x1 x2 x3 s : Int), v = .agg #[.bool b, .int .u64 x0, .int .u64 x1, .int .u64 x2, .int .u64 x3, .int .i64 s] ∧ p = [] ∧ U4 x0 x1 x2 x3 ∧ (-9223372036854775808 ≤ s ∧ s < 9223372036854775808) ∧
      ∀ (W' : World) (sp : Nat → Bool), DataW.Trod enc Try.prog W' 0 sp true 40 v d [] := by
  obtain ⟨cs, rfl, hsz, _⟩ : ∃ cs, v = .agg cs ∧ cs.size = Try.prog.cellsOf 40 ∧ Row.okWide Try.prog W .any base 40 cs := by
    simpa [Value.okWide, Try.underlying40] using hv
  rw [Try.cl40] at hsz
  obtain ⟨c0, c1, c2, c3, c4, c5, rfl⟩ : ∃ c0 c1 c2 c3 c4 c5, cs = #[c0, c1, c2, c3, c4, c5] := by
    obtain ⟨l⟩ := cs
    match l, hsz with
    | [a, b, c, d, e, f], _ => exact ⟨a, b, c, d, e, f, rfl⟩
  obtain ⟨fuel, hf⟩ := h
  obtain ⟨xs, n, rfl, hx, _, hlen, hi⟩ := DataW.trod_struct Try.underlying40 hf
  obtain ⟨y0, y1, y2, rfl⟩ : ∃ y0 y1 y2, xs = [y0, y1, y2] := by
    match xs, hlen with
    | [a, b, c], _ => exact ⟨a, b, c, rfl⟩
  have i0 := hi 0 _ rfl
  have i1 := hi 1 _ rfl
  have i2 := hi 2 _ rfl
  simp [Try.cl4, Try.cl24, Try.cl3, Value.cells] at i0 i1 i2
  obtain ⟨b, e0, rfl⟩ := DataW.trod_bool Try.underlying4 i0
  obtain ⟨s, e5, rfl, w5⟩ := DataW.trod_int Try.underlying3 i2
  obtain ⟨zs, m, rfl, hz, _, hn, hj⟩ := DataW.trod_array Try.underlying24 i1
  have j0 := hj 0 (by decide)
  have j1 := hj 1 (by decide)
  have j2 := hj 2 (by decide)
  have j3 := hj 3 (by decide)
  simp only [Try.cl22] at j0 j1 j2 j3
  obtain ⟨z0, z1, z2, z3, rfl⟩ : ∃ z0 z1 z2 z3, zs = [z0, z1, z2, z3] := by
    match zs, hn with
    | [a, b, c, d], _ => exact ⟨a, b, c, d, rfl⟩
  simp at j0 j1 j2 j3
  obtain ⟨x0, e1, rfl, w0⟩ := DataW.trod_int Try.underlying22 j0
  obtain ⟨x1, e2, rfl, w1⟩ := DataW.trod_int Try.underlying22 j1
  obtain ⟨x2, e3, rfl, w2⟩ := DataW.trod_int Try.underlying22 j2
  obtain ⟨x3, e4, rfl, w3⟩ := DataW.trod_int Try.underlying22 j3
  simp at e0 e1 e2 e3 e4 e5
  subst e0 e1 e2 e3 e4 e5
  subst hz
  simp at hx
  obtain ⟨rfl, rfl⟩ := hx
  refine ⟨b, x0, x1, x2, x3, s, rfl, rfl, ⟨wf_u1 w0, wf_u1 w1, wf_u1 w2, wf_u1 w3⟩, wf_i1 w5, fun W' sp => ⟨3, ?_⟩⟩
  simp [DataW.trod, Value.cells, Try.underlying40, Try.underlying24, Try.underlying22, Try.underlying4, Try.underlying3, Try.cl40, Try.cl24, Try.cl22, Try.cl4, Try.cl3, w0, w1, w2, w3, w5, show List.range 4 = [0, 1, 2, 3] from rfl]
end Go.Proofs.Ytoiiekmkcpcbgaa
/-
  A whole number and a decimal that came in.
-/
namespace Go.Proofs.Ytoiiekmkcpcbgaa
open Go.ChangeShapes Go.WideShapes Go.ChangeAt Go.RowKit
set_option maxRecDepth 100000 in
theorem open_i64 {H : Type} {enc : TypeId × Value → H} {W : World} {base : Nat} {T : TypeId} {v : Value} {d : DataW H} {p : List MemPlace} (hu : Try.prog.underlying T = some (.int .i64)) (hv : Value.okWide Try.prog W .any base T v) (h : DataW.Trod enc Try.prog W 0 (fun _ => true) true T v d p) :
    ∃ x : Int, v = .int .i64 x ∧ p = [] ∧ (-9223372036854775808 ≤ x ∧ x < 9223372036854775808) ∧
      ∀ (W' : World) (sp : Nat → Bool), DataW.Trod enc Try.prog W' 0 sp true T v d [] := by
  obtain ⟨n, rfl, rfl, rfl, hw⟩ := open_int hu hv h
  exact ⟨n, rfl, rfl, wf_i1 hw, fun W' sp => shut_int hu hw⟩
theorem dc_vl {b : Bool} {s x0 x1 x2 x3 : Int} (h : U4 x0 x1 x2 x3) : dc b (vl x0 x1 x2 x3) s = .agg #[.bool b, .int .u64 x0, .int .u64 x1, .int .u64 x2, .int .u64 x3, .int .i64 s] := by
  have := nv_vl h
  simp at this
  obtain ⟨a, b, c, d⟩ := this
  unfold dc
  rw [a, b, c, d]
end Go.Proofs.Ytoiiekmkcpcbgaa

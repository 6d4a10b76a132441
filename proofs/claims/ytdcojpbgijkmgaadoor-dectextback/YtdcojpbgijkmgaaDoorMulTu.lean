/-
  decimal.MulTo where nothing is cut off: the walk.
-/
import Derived.Test.YtdcojpbgijkmgaaDoorMulTo
namespace Go.Proofs.YtdcojpbgijkmgaaDoor
open Go.RowKit
set_option maxHeartbeats 8000000 in
theorem mulTo_over (b c : Bool) (n m s t S p : Int) (w : World) (hn0 : 0 ≤ n) (hn : n < MM) (hm0 : 0 ≤ m) (hm : m < MM) (h1 : ck b n s = 0) (h2 : ck c m t = 0) (hS : sc S = true) (hp1 : 1 ≤ p) (hp5 : p ≤ 5) (g : Nat) (hf : s + t - S = -(g : Int)) (hg : g ≤ 18) (hs : 0 ≤ s ∧ s ≤ 18) (ht : 0 ≤ t ∧ t ≤ 18) (hr : MM ≤ n * m) :
    Calls Tryd.prog 57 #[dc b n s, dc c m t, .int .i64 S, .int .i64 p] w fun e w' => e = .returned (er 7) ∧ Mo w w' := by
  have bX := prod_bd hn0 hn hm0 hm
  have q4 := eq4
  have hst : IntKind.i64.wrap (s + t) = s + t := by rw [IntKind.wrap_i64]; omega
  have hff : IntKind.i64.wrap (-(g : Int)) = -(g : Int) := by rw [IntKind.wrap_i64]; omega
  have hgg : IntKind.i64.wrap (g : Int) = (g : Int) := by rw [IntKind.wrap_i64]; omega
  have hd : decide (-(g : Int) > 0) = false := decide_eq_false (by omega)
  have HF : Hid _ := hf
  have z4 : (l0 (n * m / MM) == 0 && (l1 (n * m / MM) == 0 && (l2 (n * m / MM) == 0 && l3 (n * m / MM) == 0))) = false := by
    have pp : (0 : Int) < MM := by decide
    rw [zero4 (Int.ediv_nonneg bX.1 (by omega)) (Int.ediv_lt_of_lt_mul pp bX.2)]
    refine decide_eq_false fun h => ?_
    have := Int.lt_mul_of_ediv_lt pp (show n * m / MM < 1 by omega)
    omega
  clear bX hf hr
  have hsz := dwa_size
  have rst := st81
  have rn1 := there_new
  have rc := cell_sc
  go_enter Tryd.func57, Tryd.ntmps57
  go_wp2_with fail
  refine (both_ok b n s c m t _ hn0 hn hm0 hm h1 h2).mono ?_
  rintro e w1 ⟨rfl, hm1⟩
  have mz : Mo w w1 := Mo.trans (by repeat (first | with_reducible exact Mo.refl _ | with_reducible apply Mo.drew | with_reducible apply Mo.alloc)) hm1
  have M := mz
  have Qa : AtD w1 (w.heap.size) b n s := AtD.mo ⟨by simp [go_sem], fun o => by simp [go_sem], by simp <;> omega⟩ hm1
  have Qb : AtD w1 (w.heap.size + 1) c m t := AtD.mo ⟨by simp [go_sem], fun o => by simp [go_sem], by simp <;> omega⟩ hm1
  have Qr : AtD w1 (w.heap.size + 1 + 1) false 0 0 := AtD.mo ⟨by simp [go_sem, zl0, zl1, zl2, zl3], fun o => by simp [go_sem], by simp <;> omega⟩ hm1
  clear hm1 mz
  have Oa := Qa
  obtain ⟨⟨ca0, ca1, ca2, ca3, ca4, ca5⟩, fa, sa⟩ := Oa
  have fa := fun o => fa o
  have sxa : w.heap.size < w1.heap.size + 1 := by omega
  have sya : w.heap.size < w1.heap.size + 1 + 1 := by omega
  have Ob := Qb
  obtain ⟨⟨cb0, cb1, cb2, cb3, cb4, cb5⟩, fb, sb⟩ := Ob
  have fb := fun o => fb o
  have sxb : w.heap.size + 1 < w1.heap.size + 1 := by omega
  have syb : w.heap.size + 1 < w1.heap.size + 1 + 1 := by omega
  have Or := Qr
  obtain ⟨⟨cr0, cr1, cr2, cr3, cr4, cr5⟩, fr, sr⟩ := Or
  have fr := fun o => fr o
  have sxr : w.heap.size + 1 + 1 < w1.heap.size + 1 := by omega
  have syr : w.heap.size + 1 + 1 < w1.heap.size + 1 + 1 := by omega
  go_wp2_with fail
  refine (cr_ok S p _ hS hp1 hp5).mono ?_
  rintro e w2 ⟨rfl, hm2⟩
  have mz : Mo w1 w2 := Mo.trans (by repeat (first | with_reducible exact Mo.refl _ | with_reducible apply Mo.drew | with_reducible apply Mo.alloc)) hm2
  have zw1a := sa
  have zw1b := sb
  have zw1r := sr
  clear ca0 ca1 ca2 ca3 ca4 ca5 fa sa sxa sya cb0 cb1 cb2 cb3 cb4 cb5 fb sb sxb syb cr0 cr1 cr2 cr3 cr4 cr5 fr sr sxr syr
  have Qa := Qa.mo mz
  have Qb := Qb.mo mz
  have Qr := Qr.mo mz
  have M := M.trans mz
  clear hm2 mz
  have Oa := Qa
  obtain ⟨⟨ca0, ca1, ca2, ca3, ca4, ca5⟩, fa, sa⟩ := Oa
  have fa := fun o => fa o
  have sxa : w.heap.size < w2.heap.size + 1 := by omega
  have sya : w.heap.size < w2.heap.size + 1 + 1 := by omega
  have Ob := Qb
  obtain ⟨⟨cb0, cb1, cb2, cb3, cb4, cb5⟩, fb, sb⟩ := Ob
  have fb := fun o => fb o
  have sxb : w.heap.size + 1 < w2.heap.size + 1 := by omega
  have syb : w.heap.size + 1 < w2.heap.size + 1 + 1 := by omega
  have Or := Qr
  obtain ⟨⟨cr0, cr1, cr2, cr3, cr4, cr5⟩, fr, sr⟩ := Or
  have fr := fun o => fr o
  have sxr : w.heap.size + 1 + 1 < w2.heap.size + 1 := by omega
  have syr : w.heap.size + 1 + 1 < w2.heap.size + 1 + 1 := by omega
  go_upto_region 7 with fail
  have nw2a : ¬ w.heap.size = w2.heap.size := (by omega)
  have nw2b : ¬ w.heap.size + 1 = w2.heap.size := (by omega)
  go_cut [12, 13] from 29 to 38 (fun s12 s13 wx => ∃ k, s12 = .bool (b != c) ∧ s13 = .pointer (some ⟨k, 0, none⟩) ∧ w.heap.size + 1 + 1 < k ∧ Mo w wx ∧ AtD wx w.heap.size b n s ∧ AtD wx (w.heap.size + 1) c m t ∧ AtD wx (w.heap.size + 1 + 1) false 0 0 ∧ AtX wx k (n * m))
  case first =>
    go_region_held3 (fun w' => w'.cell? ⟨w.heap.size, 0, none⟩ = some (.bool b) ∧ w'.cell? ⟨w.heap.size, 1, none⟩ = some (.int .u64 (l0 n)) ∧ w'.cell? ⟨w.heap.size, 2, none⟩ = some (.int .u64 (l1 n)) ∧ w'.cell? ⟨w.heap.size, 3, none⟩ = some (.int .u64 (l2 n)) ∧ w'.cell? ⟨w.heap.size, 4, none⟩ = some (.int .u64 (l3 n)) ∧ w'.cell? ⟨w.heap.size + 1, 0, none⟩ = some (.bool c) ∧ w'.cell? ⟨w.heap.size + 1, 1, none⟩ = some (.int .u64 (l0 m)) ∧ w'.cell? ⟨w.heap.size + 1, 2, none⟩ = some (.int .u64 (l1 m)) ∧ w'.cell? ⟨w.heap.size + 1, 3, none⟩ = some (.int .u64 (l2 m)) ∧ w'.cell? ⟨w.heap.size + 1, 4, none⟩ = some (.int .u64 (l3 m))) (simp [go_sem, *])
      (first | (go_at_call 62; refine (mulDouble_x n m _ hn0 hn hm0 hm).mono ?_; rintro e w3 ⟨rfl, hm3⟩; have m3 : Mo w2 w3 := Mo.trans (by repeat (first | with_reducible exact Mo.refl _ | with_reducible apply Mo.drew | with_reducible apply Mo.alloc)) hm3; obtain ⟨⟨e0, e1, e2, e3, e4, e5⟩, _, es⟩ := Qa.mo m3; obtain ⟨⟨f0, f1, f2, f3, f4, f5⟩, _, fs⟩ := Qb.mo m3; have nw3a : ¬ w.heap.size = w3.heap.size := (by omega); have nw3b : ¬ w.heap.size + 1 = w3.heap.size := (by omega); (first | (with_reducible have pq := T81.mk1 hm3; obtain ⟨p1, pz⟩ := pq) | (with_reducible have pq := T81.mk2 hm3; obtain ⟨p1, pz⟩ := pq) | skip)))
    all_goals
      go_wp2
      go_meet
      case rel =>
        have zr := (Qr.mo m3).2.2
        refine ⟨_, by cases b <;> cases c <;> rfl, rfl, by omega, ?_, ?_, ?_, ?_, ?_⟩
        · have MM1 := M.trans m3
          first | with_reducible exact Mo.setCells (by omega) _ _ _ MM1 | with_reducible exact Mo.setCells (by omega) _ _ _ (MM1.alloc _ _)
        · have q := Qa.mo m3
          first | with_reducible exact q.other (by omega) _ | with_reducible exact (q.mo ((Mo.refl _).alloc _ _)).other (by omega) _
        · have q := Qb.mo m3
          first | with_reducible exact q.other (by omega) _ | with_reducible exact (q.mo ((Mo.refl _).alloc _ _)).other (by omega) _
        · have q := Qr.mo m3
          first | with_reducible exact q.other (by omega) _ | with_reducible exact (q.mo ((Mo.refl _).alloc _ _)).other (by omega) _
        · first | with_reducible exact AtX.same _ p1 (by omega) | exact AtX.same _ (there_new _) (by simp)
  case rest =>
    clear ca0 ca1 ca2 ca3 ca4 ca5 fa sa sxa sya cb0 cb1 cb2 cb3 cb4 cb5 fb sb sxb syb cr0 cr1 cr2 cr3 cr4 cr5 fr sr sxr syr Qa Qb Qr M nw2a nw2b rst rn1 rc
    obtain ⟨k, rfl, rfl, hk, M, Qa, Qb, Qr, Qx⟩ := hcut
    obtain ⟨X, hX⟩ : ∃ X, X = n * m := ⟨_, rfl⟩
    rw [← hX] at Qx
    have HX : Hid _ := hX
    clear hX
    generalize hnb : (b != c) = nb at *
    have HN : Hid _ := hnb
    clear hnb
    have xl := ld81 wc k X Qx.1
    have xc := Qx.cells
    obtain ⟨x0, x1, x2, x3, x4, x5, x6, x7⟩ := xc
    have Oa := Qa
    obtain ⟨⟨ca0, ca1, ca2, ca3, ca4, ca5⟩, fa, sa⟩ := Oa
    have fa := fun o => fa o
    have sxa : w.heap.size < wc.heap.size + 1 := by omega
    have sya : w.heap.size < wc.heap.size + 1 + 1 := by omega
    have Ob := Qb
    obtain ⟨⟨cb0, cb1, cb2, cb3, cb4, cb5⟩, fb, sb⟩ := Ob
    have fb := fun o => fb o
    have sxb : w.heap.size + 1 < wc.heap.size + 1 := by omega
    have syb : w.heap.size + 1 < wc.heap.size + 1 + 1 := by omega
    have Or := Qr
    obtain ⟨⟨cr0, cr1, cr2, cr3, cr4, cr5⟩, fr, sr⟩ := Or
    have fr := fun o => fr o
    have sxr : w.heap.size + 1 + 1 < wc.heap.size + 1 := by omega
    have syr : w.heap.size + 1 + 1 < wc.heap.size + 1 + 1 := by omega
    have hf := HF.out
    rw [← HX.out] at z4
    go_wp2
    refine bodyPost_ret (v := er 7) (by simp [results, Tryd.results57, go_sem, *]) rfl ?_
    refine ⟨rfl, ?_⟩
    repeat (first | with_reducible exact M | with_reducible exact Mo.refl _ | with_reducible apply Mo.drew | with_reducible apply Mo.drewN | with_reducible apply Mo.alloc | with_reducible refine Mo.setCell ?_ (by simp <;> omega) _)
set_option maxHeartbeats 8000000 in
theorem mulTo_up_room (b c : Bool) (n m s t S p : Int) (w : World) (hn0 : 0 ≤ n) (hn : n < MM) (hm0 : 0 ≤ m) (hm : m < MM) (h1 : ck b n s = 0) (h2 : ck c m t = 0) (hS : sc S = true) (hp1 : 1 ≤ p) (hp5 : p ≤ 5) (g : Nat) (hf : s + t - S = -(g : Int)) (hg : g ≤ 18) (hs : 0 ≤ s ∧ s ≤ 18) (ht : 0 ≤ t ∧ t ≤ 18) (hx : n * m < MM) (hr : n * m * 10 ^ g < MM) :
    Calls Tryd.prog 57 #[dc b n s, dc c m t, .int .i64 S, .int .i64 p] w fun e w' => e = .returned (.tuple #[dz (sv (b != c) (n * m * 10 ^ g)) S, .int .i64 0]) ∧ Mo w w' := by
  have bX := prod_bd hn0 hn hm0 hm
  have q4 := eq4
  have hst : IntKind.i64.wrap (s + t) = s + t := by rw [IntKind.wrap_i64]; omega
  have hff : IntKind.i64.wrap (-(g : Int)) = -(g : Int) := by rw [IntKind.wrap_i64]; omega
  have hgg : IntKind.i64.wrap (g : Int) = (g : Int) := by rw [IntKind.wrap_i64]; omega
  have hd : decide (-(g : Int) > 0) = false := decide_eq_false (by omega)
  have HF : Hid _ := hf
  have z4 : (l0 (n * m / MM) == 0 && (l1 (n * m / MM) == 0 && (l2 (n * m / MM) == 0 && l3 (n * m / MM) == 0))) = true := by
    rw [Int.ediv_eq_zero_of_lt bX.1 hx]; rfl
  have hg77 : g ≤ 77 := by omega
  have tb := ten_bd g hg77
  have hten : ∀ w, Calls Tryd.prog 49 #[.int .i64 (g : Int)] w fun e w' => e = .returned (nv (10 ^ g)) ∧ Mo w w' := fun w => dten_n g w hg77
  have hmul : ∀ w, Calls Tryd.prog 62 #[nv (n * m), nv (10 ^ g)] w fun e w' => e = .returned (dx (n * m * 10 ^ g)) ∧ Mo w w' := fun w => mulDouble_x (n * m) (10 ^ g) w bX.1 hx (by omega) tb.2
  have hfit : ∀ w, Calls Tryd.prog 85 #[.bool (b != c), dx (n * m * 10 ^ g), .int .i64 S] w fun e w' => e = .returned (.tuple #[dz (sv (b != c) (n * m * 10 ^ g)) S, .int .i64 0]) ∧ Mo w w' := fun w => fit_room (b != c) (n * m * 10 ^ g) S w (Int.mul_nonneg bX.1 (by omega)) hr
  clear bX hf hr hx tb
  obtain ⟨T, hT⟩ : ∃ T : Int, T = 10 ^ g := ⟨_, rfl⟩
  rw [← hT] at hten hmul hfit
  have HT : Hid _ := hT
  clear hT
  have hsz := dwa_size
  have rst := st81
  have rn1 := there_new
  have rc := cell_sc
  go_enter Tryd.func57, Tryd.ntmps57
  go_wp2_with fail
  refine (both_ok b n s c m t _ hn0 hn hm0 hm h1 h2).mono ?_
  rintro e w1 ⟨rfl, hm1⟩
  have mz : Mo w w1 := Mo.trans (by repeat (first | with_reducible exact Mo.refl _ | with_reducible apply Mo.drew | with_reducible apply Mo.alloc)) hm1
  have M := mz
  have Qa : AtD w1 (w.heap.size) b n s := AtD.mo ⟨by simp [go_sem], fun o => by simp [go_sem], by simp <;> omega⟩ hm1
  have Qb : AtD w1 (w.heap.size + 1) c m t := AtD.mo ⟨by simp [go_sem], fun o => by simp [go_sem], by simp <;> omega⟩ hm1
  have Qr : AtD w1 (w.heap.size + 1 + 1) false 0 0 := AtD.mo ⟨by simp [go_sem, zl0, zl1, zl2, zl3], fun o => by simp [go_sem], by simp <;> omega⟩ hm1
  clear hm1 mz
  have Oa := Qa
  obtain ⟨⟨ca0, ca1, ca2, ca3, ca4, ca5⟩, fa, sa⟩ := Oa
  have fa := fun o => fa o
  have sxa : w.heap.size < w1.heap.size + 1 := by omega
  have sya : w.heap.size < w1.heap.size + 1 + 1 := by omega
  have Ob := Qb
  obtain ⟨⟨cb0, cb1, cb2, cb3, cb4, cb5⟩, fb, sb⟩ := Ob
  have fb := fun o => fb o
  have sxb : w.heap.size + 1 < w1.heap.size + 1 := by omega
  have syb : w.heap.size + 1 < w1.heap.size + 1 + 1 := by omega
  have Or := Qr
  obtain ⟨⟨cr0, cr1, cr2, cr3, cr4, cr5⟩, fr, sr⟩ := Or
  have fr := fun o => fr o
  have sxr : w.heap.size + 1 + 1 < w1.heap.size + 1 := by omega
  have syr : w.heap.size + 1 + 1 < w1.heap.size + 1 + 1 := by omega
  go_wp2_with fail
  refine (cr_ok S p _ hS hp1 hp5).mono ?_
  rintro e w2 ⟨rfl, hm2⟩
  have mz : Mo w1 w2 := Mo.trans (by repeat (first | with_reducible exact Mo.refl _ | with_reducible apply Mo.drew | with_reducible apply Mo.alloc)) hm2
  have zw1a := sa
  have zw1b := sb
  have zw1r := sr
  clear ca0 ca1 ca2 ca3 ca4 ca5 fa sa sxa sya cb0 cb1 cb2 cb3 cb4 cb5 fb sb sxb syb cr0 cr1 cr2 cr3 cr4 cr5 fr sr sxr syr
  have Qa := Qa.mo mz
  have Qb := Qb.mo mz
  have Qr := Qr.mo mz
  have M := M.trans mz
  clear hm2 mz
  have Oa := Qa
  obtain ⟨⟨ca0, ca1, ca2, ca3, ca4, ca5⟩, fa, sa⟩ := Oa
  have fa := fun o => fa o
  have sxa : w.heap.size < w2.heap.size + 1 := by omega
  have sya : w.heap.size < w2.heap.size + 1 + 1 := by omega
  have Ob := Qb
  obtain ⟨⟨cb0, cb1, cb2, cb3, cb4, cb5⟩, fb, sb⟩ := Ob
  have fb := fun o => fb o
  have sxb : w.heap.size + 1 < w2.heap.size + 1 := by omega
  have syb : w.heap.size + 1 < w2.heap.size + 1 + 1 := by omega
  have Or := Qr
  obtain ⟨⟨cr0, cr1, cr2, cr3, cr4, cr5⟩, fr, sr⟩ := Or
  have fr := fun o => fr o
  have sxr : w.heap.size + 1 + 1 < w2.heap.size + 1 := by omega
  have syr : w.heap.size + 1 + 1 < w2.heap.size + 1 + 1 := by omega
  go_upto_region 7 with fail
  have nw2a : ¬ w.heap.size = w2.heap.size := (by omega)
  have nw2b : ¬ w.heap.size + 1 = w2.heap.size := (by omega)
  go_cut [12, 13] from 29 to 38 (fun s12 s13 wx => ∃ k, s12 = .bool (b != c) ∧ s13 = .pointer (some ⟨k, 0, none⟩) ∧ w.heap.size + 1 + 1 < k ∧ Mo w wx ∧ AtD wx w.heap.size b n s ∧ AtD wx (w.heap.size + 1) c m t ∧ AtD wx (w.heap.size + 1 + 1) false 0 0 ∧ AtX wx k (n * m))
  case first =>
    go_region_held3 (fun w' => w'.cell? ⟨w.heap.size, 0, none⟩ = some (.bool b) ∧ w'.cell? ⟨w.heap.size, 1, none⟩ = some (.int .u64 (l0 n)) ∧ w'.cell? ⟨w.heap.size, 2, none⟩ = some (.int .u64 (l1 n)) ∧ w'.cell? ⟨w.heap.size, 3, none⟩ = some (.int .u64 (l2 n)) ∧ w'.cell? ⟨w.heap.size, 4, none⟩ = some (.int .u64 (l3 n)) ∧ w'.cell? ⟨w.heap.size + 1, 0, none⟩ = some (.bool c) ∧ w'.cell? ⟨w.heap.size + 1, 1, none⟩ = some (.int .u64 (l0 m)) ∧ w'.cell? ⟨w.heap.size + 1, 2, none⟩ = some (.int .u64 (l1 m)) ∧ w'.cell? ⟨w.heap.size + 1, 3, none⟩ = some (.int .u64 (l2 m)) ∧ w'.cell? ⟨w.heap.size + 1, 4, none⟩ = some (.int .u64 (l3 m))) (simp [go_sem, *])
      (first | (go_at_call 62; refine (mulDouble_x n m _ hn0 hn hm0 hm).mono ?_; rintro e w3 ⟨rfl, hm3⟩; have m3 : Mo w2 w3 := Mo.trans (by repeat (first | with_reducible exact Mo.refl _ | with_reducible apply Mo.drew | with_reducible apply Mo.alloc)) hm3; obtain ⟨⟨e0, e1, e2, e3, e4, e5⟩, _, es⟩ := Qa.mo m3; obtain ⟨⟨f0, f1, f2, f3, f4, f5⟩, _, fs⟩ := Qb.mo m3; have nw3a : ¬ w.heap.size = w3.heap.size := (by omega); have nw3b : ¬ w.heap.size + 1 = w3.heap.size := (by omega); (first | (with_reducible have pq := T81.mk1 hm3; obtain ⟨p1, pz⟩ := pq) | (with_reducible have pq := T81.mk2 hm3; obtain ⟨p1, pz⟩ := pq) | skip)))
    all_goals
      go_wp2
      go_meet
      case rel =>
        have zr := (Qr.mo m3).2.2
        refine ⟨_, by cases b <;> cases c <;> rfl, rfl, by omega, ?_, ?_, ?_, ?_, ?_⟩
        · have MM1 := M.trans m3
          first | with_reducible exact Mo.setCells (by omega) _ _ _ MM1 | with_reducible exact Mo.setCells (by omega) _ _ _ (MM1.alloc _ _)
        · have q := Qa.mo m3
          first | with_reducible exact q.other (by omega) _ | with_reducible exact (q.mo ((Mo.refl _).alloc _ _)).other (by omega) _
        · have q := Qb.mo m3
          first | with_reducible exact q.other (by omega) _ | with_reducible exact (q.mo ((Mo.refl _).alloc _ _)).other (by omega) _
        · have q := Qr.mo m3
          first | with_reducible exact q.other (by omega) _ | with_reducible exact (q.mo ((Mo.refl _).alloc _ _)).other (by omega) _
        · first | with_reducible exact AtX.same _ p1 (by omega) | exact AtX.same _ (there_new _) (by simp)
  case rest =>
    clear ca0 ca1 ca2 ca3 ca4 ca5 fa sa sxa sya cb0 cb1 cb2 cb3 cb4 cb5 fb sb sxb syb cr0 cr1 cr2 cr3 cr4 cr5 fr sr sxr syr Qa Qb Qr M nw2a nw2b rst rn1 rc
    obtain ⟨k, rfl, rfl, hk, M, Qa, Qb, Qr, Qx⟩ := hcut
    obtain ⟨X, hX⟩ : ∃ X, X = n * m := ⟨_, rfl⟩
    rw [← hX] at Qx
    have HX : Hid _ := hX
    clear hX
    generalize hnb : (b != c) = nb at *
    have HN : Hid _ := hnb
    clear hnb
    have xl := ld81 wc k X Qx.1
    have xc := Qx.cells
    obtain ⟨x0, x1, x2, x3, x4, x5, x6, x7⟩ := xc
    have Oa := Qa
    obtain ⟨⟨ca0, ca1, ca2, ca3, ca4, ca5⟩, fa, sa⟩ := Oa
    have fa := fun o => fa o
    have sxa : w.heap.size < wc.heap.size + 1 := by omega
    have sya : w.heap.size < wc.heap.size + 1 + 1 := by omega
    have Ob := Qb
    obtain ⟨⟨cb0, cb1, cb2, cb3, cb4, cb5⟩, fb, sb⟩ := Ob
    have fb := fun o => fb o
    have sxb : w.heap.size + 1 < wc.heap.size + 1 := by omega
    have syb : w.heap.size + 1 < wc.heap.size + 1 + 1 := by omega
    have Or := Qr
    obtain ⟨⟨cr0, cr1, cr2, cr3, cr4, cr5⟩, fr, sr⟩ := Or
    have fr := fun o => fr o
    have sxr : w.heap.size + 1 + 1 < wc.heap.size + 1 := by omega
    have syr : w.heap.size + 1 + 1 < wc.heap.size + 1 + 1 := by omega
    have hf := HF.out
    rw [← HX.out] at z4
    rw [← HX.out] at hmul hfit
    go_upto_region 13 with fail
    go_region_with
      (first | (go_at_call 49; refine (hten _).mono ?_; rintro e w5 ⟨rfl, hm5⟩; have m5 : Mo wc w5 := Mo.trans (by repeat (first | with_reducible exact Mo.refl _ | with_reducible apply Mo.drew | with_reducible apply Mo.alloc)) hm5; obtain ⟨y0, y1, y2, y3, y4, y5, y6, y7⟩ := (Qx.mo m5).cells) | (go_at_call 62; refine (hmul _).mono ?_; rintro e w6 ⟨rfl, hm6⟩; have m6 : Mo w5 w6 := Mo.trans (by repeat (first | with_reducible exact Mo.refl _ | with_reducible apply Mo.drew | with_reducible apply Mo.alloc)) hm6) | (go_at_call 85; refine (hfit _).mono ?_; rintro e w7 ⟨rfl, hm7⟩; have m7 : Mo w6 w7 := Mo.trans (by repeat (first | with_reducible exact Mo.refl _ | with_reducible apply Mo.drew | with_reducible apply Mo.alloc)) hm7; have m8 := (m5.trans m6).trans m7; obtain ⟨⟨g0, g1, g2, g3, g4, g5⟩, gf, gz⟩ := Qr.mo m8; have gf := fun o => gf o))
    all_goals
      go_wp2
      have M := M.trans m8
      refine bodyPost_ret (v := .tuple #[dz (sv nb (X * T)) S, .int .i64 0]) (by simp [results, Tryd.results57, go_sem, *]) rfl ?_
      refine ⟨by rw [HN.out, ← HX.out, ← HT.out], ?_⟩
      repeat (first | with_reducible exact M | with_reducible exact Mo.refl _ | with_reducible apply Mo.drew | with_reducible apply Mo.drewN | with_reducible apply Mo.alloc | with_reducible refine Mo.setCell ?_ (by simp <;> omega) _)
set_option maxHeartbeats 8000000 in
theorem mulTo_up_full (b c : Bool) (n m s t S p : Int) (w : World) (hn0 : 0 ≤ n) (hn : n < MM) (hm0 : 0 ≤ m) (hm : m < MM) (h1 : ck b n s = 0) (h2 : ck c m t = 0) (hS : sc S = true) (hp1 : 1 ≤ p) (hp5 : p ≤ 5) (g : Nat) (hf : s + t - S = -(g : Int)) (hg : g ≤ 18) (hs : 0 ≤ s ∧ s ≤ 18) (ht : 0 ≤ t ∧ t ≤ 18) (hx : n * m < MM) (hr : MM ≤ n * m * 10 ^ g) :
    Calls Tryd.prog 57 #[dc b n s, dc c m t, .int .i64 S, .int .i64 p] w fun e w' => e = .returned (er 7) ∧ Mo w w' := by
  have bX := prod_bd hn0 hn hm0 hm
  have q4 := eq4
  have hst : IntKind.i64.wrap (s + t) = s + t := by rw [IntKind.wrap_i64]; omega
  have hff : IntKind.i64.wrap (-(g : Int)) = -(g : Int) := by rw [IntKind.wrap_i64]; omega
  have hgg : IntKind.i64.wrap (g : Int) = (g : Int) := by rw [IntKind.wrap_i64]; omega
  have hd : decide (-(g : Int) > 0) = false := decide_eq_false (by omega)
  have HF : Hid _ := hf
  have z4 : (l0 (n * m / MM) == 0 && (l1 (n * m / MM) == 0 && (l2 (n * m / MM) == 0 && l3 (n * m / MM) == 0))) = true := by
    rw [Int.ediv_eq_zero_of_lt bX.1 hx]; rfl
  have hg77 : g ≤ 77 := by omega
  have tb := ten_bd g hg77
  have hten : ∀ w, Calls Tryd.prog 49 #[.int .i64 (g : Int)] w fun e w' => e = .returned (nv (10 ^ g)) ∧ Mo w w' := fun w => dten_n g w hg77
  have hmul : ∀ w, Calls Tryd.prog 62 #[nv (n * m), nv (10 ^ g)] w fun e w' => e = .returned (dx (n * m * 10 ^ g)) ∧ Mo w w' := fun w => mulDouble_x (n * m) (10 ^ g) w bX.1 hx (by omega) tb.2
  have hfit : ∀ w, Calls Tryd.prog 85 #[.bool (b != c), dx (n * m * 10 ^ g), .int .i64 S] w fun e w' => e = .returned (er 7) ∧ Mo w w' := fun w => fit_full (b != c) (n * m * 10 ^ g) S w hr (prod_bd bX.1 hx (by omega) tb.2).2
  clear bX hf hr hx tb
  obtain ⟨T, hT⟩ : ∃ T : Int, T = 10 ^ g := ⟨_, rfl⟩
  rw [← hT] at hten hmul hfit
  have HT : Hid _ := hT
  clear hT
  have hsz := dwa_size
  have rst := st81
  have rn1 := there_new
  have rc := cell_sc
  go_enter Tryd.func57, Tryd.ntmps57
  go_wp2_with fail
  refine (both_ok b n s c m t _ hn0 hn hm0 hm h1 h2).mono ?_
  rintro e w1 ⟨rfl, hm1⟩
  have mz : Mo w w1 := Mo.trans (by repeat (first | with_reducible exact Mo.refl _ | with_reducible apply Mo.drew | with_reducible apply Mo.alloc)) hm1
  have M := mz
  have Qa : AtD w1 (w.heap.size) b n s := AtD.mo ⟨by simp [go_sem], fun o => by simp [go_sem], by simp <;> omega⟩ hm1
  have Qb : AtD w1 (w.heap.size + 1) c m t := AtD.mo ⟨by simp [go_sem], fun o => by simp [go_sem], by simp <;> omega⟩ hm1
  have Qr : AtD w1 (w.heap.size + 1 + 1) false 0 0 := AtD.mo ⟨by simp [go_sem, zl0, zl1, zl2, zl3], fun o => by simp [go_sem], by simp <;> omega⟩ hm1
  clear hm1 mz
  have Oa := Qa
  obtain ⟨⟨ca0, ca1, ca2, ca3, ca4, ca5⟩, fa, sa⟩ := Oa
  have fa := fun o => fa o
  have sxa : w.heap.size < w1.heap.size + 1 := by omega
  have sya : w.heap.size < w1.heap.size + 1 + 1 := by omega
  have Ob := Qb
  obtain ⟨⟨cb0, cb1, cb2, cb3, cb4, cb5⟩, fb, sb⟩ := Ob
  have fb := fun o => fb o
  have sxb : w.heap.size + 1 < w1.heap.size + 1 := by omega
  have syb : w.heap.size + 1 < w1.heap.size + 1 + 1 := by omega
  have Or := Qr
  obtain ⟨⟨cr0, cr1, cr2, cr3, cr4, cr5⟩, fr, sr⟩ := Or
  have fr := fun o => fr o
  have sxr : w.heap.size + 1 + 1 < w1.heap.size + 1 := by omega
  have syr : w.heap.size + 1 + 1 < w1.heap.size + 1 + 1 := by omega
  go_wp2_with fail
  refine (cr_ok S p _ hS hp1 hp5).mono ?_
  rintro e w2 ⟨rfl, hm2⟩
  have mz : Mo w1 w2 := Mo.trans (by repeat (first | with_reducible exact Mo.refl _ | with_reducible apply Mo.drew | with_reducible apply Mo.alloc)) hm2
  have zw1a := sa
  have zw1b := sb
  have zw1r := sr
  clear ca0 ca1 ca2 ca3 ca4 ca5 fa sa sxa sya cb0 cb1 cb2 cb3 cb4 cb5 fb sb sxb syb cr0 cr1 cr2 cr3 cr4 cr5 fr sr sxr syr
  have Qa := Qa.mo mz
  have Qb := Qb.mo mz
  have Qr := Qr.mo mz
  have M := M.trans mz
  clear hm2 mz
  have Oa := Qa
  obtain ⟨⟨ca0, ca1, ca2, ca3, ca4, ca5⟩, fa, sa⟩ := Oa
  have fa := fun o => fa o
  have sxa : w.heap.size < w2.heap.size + 1 := by omega
  have sya : w.heap.size < w2.heap.size + 1 + 1 := by omega
  have Ob := Qb
  obtain ⟨⟨cb0, cb1, cb2, cb3, cb4, cb5⟩, fb, sb⟩ := Ob
  have fb := fun o => fb o
  have sxb : w.heap.size + 1 < w2.heap.size + 1 := by omega
  have syb : w.heap.size + 1 < w2.heap.size + 1 + 1 := by omega
  have Or := Qr
  obtain ⟨⟨cr0, cr1, cr2, cr3, cr4, cr5⟩, fr, sr⟩ := Or
  have fr := fun o => fr o
  have sxr : w.heap.size + 1 + 1 < w2.heap.size + 1 := by omega
  have syr : w.heap.size + 1 + 1 < w2.heap.size + 1 + 1 := by omega
  go_upto_region 7 with fail
  have nw2a : ¬ w.heap.size = w2.heap.size := (by omega)
  have nw2b : ¬ w.heap.size + 1 = w2.heap.size := (by omega)
  go_cut [12, 13] from 29 to 38 (fun s12 s13 wx => ∃ k, s12 = .bool (b != c) ∧ s13 = .pointer (some ⟨k, 0, none⟩) ∧ w.heap.size + 1 + 1 < k ∧ Mo w wx ∧ AtD wx w.heap.size b n s ∧ AtD wx (w.heap.size + 1) c m t ∧ AtD wx (w.heap.size + 1 + 1) false 0 0 ∧ AtX wx k (n * m))
  case first =>
    go_region_held3 (fun w' => w'.cell? ⟨w.heap.size, 0, none⟩ = some (.bool b) ∧ w'.cell? ⟨w.heap.size, 1, none⟩ = some (.int .u64 (l0 n)) ∧ w'.cell? ⟨w.heap.size, 2, none⟩ = some (.int .u64 (l1 n)) ∧ w'.cell? ⟨w.heap.size, 3, none⟩ = some (.int .u64 (l2 n)) ∧ w'.cell? ⟨w.heap.size, 4, none⟩ = some (.int .u64 (l3 n)) ∧ w'.cell? ⟨w.heap.size + 1, 0, none⟩ = some (.bool c) ∧ w'.cell? ⟨w.heap.size + 1, 1, none⟩ = some (.int .u64 (l0 m)) ∧ w'.cell? ⟨w.heap.size + 1, 2, none⟩ = some (.int .u64 (l1 m)) ∧ w'.cell? ⟨w.heap.size + 1, 3, none⟩ = some (.int .u64 (l2 m)) ∧ w'.cell? ⟨w.heap.size + 1, 4, none⟩ = some (.int .u64 (l3 m))) (simp [go_sem, *])
      (first | (go_at_call 62; refine (mulDouble_x n m _ hn0 hn hm0 hm).mono ?_; rintro e w3 ⟨rfl, hm3⟩; have m3 : Mo w2 w3 := Mo.trans (by repeat (first | with_reducible exact Mo.refl _ | with_reducible apply Mo.drew | with_reducible apply Mo.alloc)) hm3; obtain ⟨⟨e0, e1, e2, e3, e4, e5⟩, _, es⟩ := Qa.mo m3; obtain ⟨⟨f0, f1, f2, f3, f4, f5⟩, _, fs⟩ := Qb.mo m3; have nw3a : ¬ w.heap.size = w3.heap.size := (by omega); have nw3b : ¬ w.heap.size + 1 = w3.heap.size := (by omega); (first | (with_reducible have pq := T81.mk1 hm3; obtain ⟨p1, pz⟩ := pq) | (with_reducible have pq := T81.mk2 hm3; obtain ⟨p1, pz⟩ := pq) | skip)))
    all_goals
      go_wp2
      go_meet
      case rel =>
        have zr := (Qr.mo m3).2.2
        refine ⟨_, by cases b <;> cases c <;> rfl, rfl, by omega, ?_, ?_, ?_, ?_, ?_⟩
        · have MM1 := M.trans m3
          first | with_reducible exact Mo.setCells (by omega) _ _ _ MM1 | with_reducible exact Mo.setCells (by omega) _ _ _ (MM1.alloc _ _)
        · have q := Qa.mo m3
          first | with_reducible exact q.other (by omega) _ | with_reducible exact (q.mo ((Mo.refl _).alloc _ _)).other (by omega) _
        · have q := Qb.mo m3
          first | with_reducible exact q.other (by omega) _ | with_reducible exact (q.mo ((Mo.refl _).alloc _ _)).other (by omega) _
        · have q := Qr.mo m3
          first | with_reducible exact q.other (by omega) _ | with_reducible exact (q.mo ((Mo.refl _).alloc _ _)).other (by omega) _
        · first | with_reducible exact AtX.same _ p1 (by omega) | exact AtX.same _ (there_new _) (by simp)
  case rest =>
    clear ca0 ca1 ca2 ca3 ca4 ca5 fa sa sxa sya cb0 cb1 cb2 cb3 cb4 cb5 fb sb sxb syb cr0 cr1 cr2 cr3 cr4 cr5 fr sr sxr syr Qa Qb Qr M nw2a nw2b rst rn1 rc
    obtain ⟨k, rfl, rfl, hk, M, Qa, Qb, Qr, Qx⟩ := hcut
    obtain ⟨X, hX⟩ : ∃ X, X = n * m := ⟨_, rfl⟩
    rw [← hX] at Qx
    have HX : Hid _ := hX
    clear hX
    generalize hnb : (b != c) = nb at *
    have HN : Hid _ := hnb
    clear hnb
    have xl := ld81 wc k X Qx.1
    have xc := Qx.cells
    obtain ⟨x0, x1, x2, x3, x4, x5, x6, x7⟩ := xc
    have Oa := Qa
    obtain ⟨⟨ca0, ca1, ca2, ca3, ca4, ca5⟩, fa, sa⟩ := Oa
    have fa := fun o => fa o
    have sxa : w.heap.size < wc.heap.size + 1 := by omega
    have sya : w.heap.size < wc.heap.size + 1 + 1 := by omega
    have Ob := Qb
    obtain ⟨⟨cb0, cb1, cb2, cb3, cb4, cb5⟩, fb, sb⟩ := Ob
    have fb := fun o => fb o
    have sxb : w.heap.size + 1 < wc.heap.size + 1 := by omega
    have syb : w.heap.size + 1 < wc.heap.size + 1 + 1 := by omega
    have Or := Qr
    obtain ⟨⟨cr0, cr1, cr2, cr3, cr4, cr5⟩, fr, sr⟩ := Or
    have fr := fun o => fr o
    have sxr : w.heap.size + 1 + 1 < wc.heap.size + 1 := by omega
    have syr : w.heap.size + 1 + 1 < wc.heap.size + 1 + 1 := by omega
    have hf := HF.out
    rw [← HX.out] at z4
    rw [← HX.out] at hmul hfit
    go_upto_region 13 with fail
    go_region_with
      (first | (go_at_call 49; refine (hten _).mono ?_; rintro e w5 ⟨rfl, hm5⟩; have m5 : Mo wc w5 := Mo.trans (by repeat (first | with_reducible exact Mo.refl _ | with_reducible apply Mo.drew | with_reducible apply Mo.alloc)) hm5; obtain ⟨y0, y1, y2, y3, y4, y5, y6, y7⟩ := (Qx.mo m5).cells) | (go_at_call 62; refine (hmul _).mono ?_; rintro e w6 ⟨rfl, hm6⟩; have m6 : Mo w5 w6 := Mo.trans (by repeat (first | with_reducible exact Mo.refl _ | with_reducible apply Mo.drew | with_reducible apply Mo.alloc)) hm6) | (go_at_call 85; refine (hfit _).mono ?_; rintro e w7 ⟨rfl, hm7⟩; have m7 : Mo w6 w7 := Mo.trans (by repeat (first | with_reducible exact Mo.refl _ | with_reducible apply Mo.drew | with_reducible apply Mo.alloc)) hm7; have m8 := (m5.trans m6).trans m7; obtain ⟨⟨g0, g1, g2, g3, g4, g5⟩, gf, gz⟩ := Qr.mo m8; have gf := fun o => gf o))
    all_goals
      go_wp2
      have M := M.trans m8
      refine bodyPost_ret (v := er 7) (by simp [results, Tryd.results57, go_sem, *]) rfl ?_
      refine ⟨rfl, ?_⟩
      repeat (first | with_reducible exact M | with_reducible exact Mo.refl _ | with_reducible apply Mo.drew | with_reducible apply Mo.drewN | with_reducible apply Mo.alloc | with_reducible refine Mo.setCell ?_ (by simp <;> omega) _)
end Go.Proofs.YtdcojpbgijkmgaaDoor

/-
  decimal.Rescale: the walk.
-/
import Derived.Test.YtdcojpbgijkmgaaDoorMulTu
namespace Go.Proofs.YtdcojpbgijkmgaaDoor
open Go.RowKit
set_option maxHeartbeats 4000000 in
theorem rescale_ok (b : Bool) (n s S p : Int) (V : Int) (w : World) (hmt : ∀ w, Calls Tryd.prog 57 #[dc b n s, dc false 1 0, .int .i64 S, .int .i64 p] w fun e' w' => e' = .returned (.tuple #[dz V S, .int .i64 0]) ∧ Mo w w') :
    Calls Tryd.prog 34 #[dc b n s, .int .i64 S, .int .i64 p] w fun e' w' => e' = .returned (.tuple #[dz V S, .int .i64 0]) ∧ Mo w w' := by
  go_enter Tryd.func34, Tryd.ntmps34
  have a : Mo w ((((w).alloc (.cells #[.bool b, .int .u64 (l0 (n)), .int .u64 (l1 (n)), .int .u64 (l2 (n)), .int .u64 (l3 (n)), .int .i64 (s)] 26))).alloc (.cells #[.bool false, .int .u64 0, .int .u64 0, .int .u64 0, .int .u64 0, .int .i64 0] 26)) := by repeat (first | with_reducible exact Mo.refl _ | with_reducible apply Mo.alloc)
  have M := a
  have Qa : AtD ((((w).alloc (.cells #[.bool b, .int .u64 (l0 (n)), .int .u64 (l1 (n)), .int .u64 (l2 (n)), .int .u64 (l3 (n)), .int .i64 (s)] 26))).alloc (.cells #[.bool false, .int .u64 0, .int .u64 0, .int .u64 0, .int .u64 0, .int .i64 0] 26)) (w.heap.size) b n s := ⟨by simp [go_sem], fun o => by simp [go_sem], by simp <;> omega⟩
  have Qr : AtD ((((w).alloc (.cells #[.bool b, .int .u64 (l0 (n)), .int .u64 (l1 (n)), .int .u64 (l2 (n)), .int .u64 (l3 (n)), .int .i64 (s)] 26))).alloc (.cells #[.bool false, .int .u64 0, .int .u64 0, .int .u64 0, .int .u64 0, .int .i64 0] 26)) (w.heap.size + 1) false 0 0 := ⟨by simp [go_sem, zl0, zl1, zl2, zl3], fun o => by simp [go_sem], by simp <;> omega⟩
  clear a
  go_upto_region 1 with fail
  generalize ((((w).alloc (.cells #[.bool b, .int .u64 (l0 (n)), .int .u64 (l1 (n)), .int .u64 (l2 (n)), .int .u64 (l3 (n)), .int .i64 (s)] 26))).alloc (.cells #[.bool false, .int .u64 0, .int .u64 0, .int .u64 0, .int .u64 0, .int .i64 0] 26)) = W0 at *
  have Oa := Qa
  obtain ⟨⟨ca0, ca1, ca2, ca3, ca4, ca5⟩, fa, sa⟩ := Oa
  have fa := fun o => fa o
  have sxa : w.heap.size < W0.heap.size + 1 := by omega
  have sya : w.heap.size < W0.heap.size + 1 + 1 := by omega
  have Or := Qr
  obtain ⟨⟨cr0, cr1, cr2, cr3, cr4, cr5⟩, fr, sr⟩ := Or
  have fr := fun o => fr o
  have sxr : w.heap.size + 1 < W0.heap.size + 1 := by omega
  have syr : w.heap.size + 1 < W0.heap.size + 1 + 1 := by omega
  go_region_with
    (first | (go_at_call 58; refine (from20_any 1 _ ⟨by decide, by decide⟩).mono ?_; rintro e' w1 ⟨rfl, hm1⟩; have m1 : Mo W0 w1 := Mo.trans (by repeat (first | with_reducible exact Mo.refl _ | with_reducible apply Mo.drew | with_reducible apply Mo.alloc)) hm1; obtain ⟨⟨x0, x1, x2, x3, x4, x5⟩, _, xs⟩ := Qa.mo m1) | (go_at_call 57; refine (hmt _).mono ?_; rintro e' w2 ⟨rfl, hm2⟩; have m2 : Mo w1 w2 := Mo.trans (by repeat (first | with_reducible exact Mo.refl _ | with_reducible apply Mo.drew | with_reducible apply Mo.alloc)) hm2; have m3 := m1.trans m2; obtain ⟨⟨z0, z1, z2, z3, z4, z5⟩, zf, zs⟩ := Qr.mo m3; have zf := fun o => zf o))
  all_goals
    go_wp2
    have M := M.trans m3
    refine bodyPost_ret (v := .tuple #[dz V S, .int .i64 0]) (by simp [results, Tryd.results34, go_sem, *]) rfl ?_
    refine ⟨rfl, ?_⟩
    repeat (first | with_reducible exact M | with_reducible exact Mo.refl _ | with_reducible apply Mo.drew | with_reducible apply Mo.drewN | with_reducible apply Mo.alloc | with_reducible refine Mo.setCell ?_ (by simp <;> omega) _)
set_option maxHeartbeats 4000000 in
theorem rescale_er (b : Bool) (n s S p : Int) (e : Int) (w : World) (hmt : ∀ w, Calls Tryd.prog 57 #[dc b n s, dc false 1 0, .int .i64 S, .int .i64 p] w fun e' w' => e' = .returned (er e) ∧ Mo w w') :
    Calls Tryd.prog 34 #[dc b n s, .int .i64 S, .int .i64 p] w fun e' w' => e' = .returned (er e) ∧ Mo w w' := by
  go_enter Tryd.func34, Tryd.ntmps34
  have a : Mo w ((((w).alloc (.cells #[.bool b, .int .u64 (l0 (n)), .int .u64 (l1 (n)), .int .u64 (l2 (n)), .int .u64 (l3 (n)), .int .i64 (s)] 26))).alloc (.cells #[.bool false, .int .u64 0, .int .u64 0, .int .u64 0, .int .u64 0, .int .i64 0] 26)) := by repeat (first | with_reducible exact Mo.refl _ | with_reducible apply Mo.alloc)
  have M := a
  have Qa : AtD ((((w).alloc (.cells #[.bool b, .int .u64 (l0 (n)), .int .u64 (l1 (n)), .int .u64 (l2 (n)), .int .u64 (l3 (n)), .int .i64 (s)] 26))).alloc (.cells #[.bool false, .int .u64 0, .int .u64 0, .int .u64 0, .int .u64 0, .int .i64 0] 26)) (w.heap.size) b n s := ⟨by simp [go_sem], fun o => by simp [go_sem], by simp <;> omega⟩
  have Qr : AtD ((((w).alloc (.cells #[.bool b, .int .u64 (l0 (n)), .int .u64 (l1 (n)), .int .u64 (l2 (n)), .int .u64 (l3 (n)), .int .i64 (s)] 26))).alloc (.cells #[.bool false, .int .u64 0, .int .u64 0, .int .u64 0, .int .u64 0, .int .i64 0] 26)) (w.heap.size + 1) false 0 0 := ⟨by simp [go_sem, zl0, zl1, zl2, zl3], fun o => by simp [go_sem], by simp <;> omega⟩
  clear a
  go_upto_region 1 with fail
  generalize ((((w).alloc (.cells #[.bool b, .int .u64 (l0 (n)), .int .u64 (l1 (n)), .int .u64 (l2 (n)), .int .u64 (l3 (n)), .int .i64 (s)] 26))).alloc (.cells #[.bool false, .int .u64 0, .int .u64 0, .int .u64 0, .int .u64 0, .int .i64 0] 26)) = W0 at *
  have Oa := Qa
  obtain ⟨⟨ca0, ca1, ca2, ca3, ca4, ca5⟩, fa, sa⟩ := Oa
  have fa := fun o => fa o
  have sxa : w.heap.size < W0.heap.size + 1 := by omega
  have sya : w.heap.size < W0.heap.size + 1 + 1 := by omega
  have Or := Qr
  obtain ⟨⟨cr0, cr1, cr2, cr3, cr4, cr5⟩, fr, sr⟩ := Or
  have fr := fun o => fr o
  have sxr : w.heap.size + 1 < W0.heap.size + 1 := by omega
  have syr : w.heap.size + 1 < W0.heap.size + 1 + 1 := by omega
  go_region_with
    (first | (go_at_call 58; refine (from20_any 1 _ ⟨by decide, by decide⟩).mono ?_; rintro e' w1 ⟨rfl, hm1⟩; have m1 : Mo W0 w1 := Mo.trans (by repeat (first | with_reducible exact Mo.refl _ | with_reducible apply Mo.drew | with_reducible apply Mo.alloc)) hm1; obtain ⟨⟨x0, x1, x2, x3, x4, x5⟩, _, xs⟩ := Qa.mo m1) | (go_at_call 57; refine (hmt _).mono ?_; rintro e' w2 ⟨rfl, hm2⟩; have m2 : Mo w1 w2 := Mo.trans (by repeat (first | with_reducible exact Mo.refl _ | with_reducible apply Mo.drew | with_reducible apply Mo.alloc)) hm2; have m3 := m1.trans m2; obtain ⟨⟨z0, z1, z2, z3, z4, z5⟩, zf, zs⟩ := Qr.mo m3; have zf := fun o => zf o))
  all_goals
    go_wp2
    have M := M.trans m3
    refine bodyPost_ret (v := er e) (by simp [results, Tryd.results34, go_sem, *]) rfl ?_
    refine ⟨rfl, ?_⟩
    repeat (first | with_reducible exact M | with_reducible exact Mo.refl _ | with_reducible apply Mo.drew | with_reducible apply Mo.drewN | with_reducible apply Mo.alloc | with_reducible refine Mo.setCell ?_ (by simp <;> omega) _)
end Go.Proofs.YtdcojpbgijkmgaaDoor

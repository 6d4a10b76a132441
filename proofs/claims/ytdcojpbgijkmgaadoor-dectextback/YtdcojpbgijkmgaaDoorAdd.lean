/-
  limb.addCarry, limb.subBorrow, Add, Sub, From, Odd, whatever the limbs: the walks.
-/
import Derived.Test.YtdcojpbgijkmgaaDoorNum
namespace Go.Proofs.YtdcojpbgijkmgaaDoor
open Go.RowKit

theorem addc_eq {a0 a1 a2 a3 b0 b1 b2 b3 n : Int} (_ha : U4 a0 a1 a2 a3) (_hb : U4 b0 b1 b2 b3) (hn : n = vl a0 a1 a2 a3 + vl b0 b1 b2 b3) :
   (a0 + b0) % 18446744073709551616 = l0 n ∧ (a1 + b1 + (a0 + b0) / 18446744073709551616) % 18446744073709551616 = l1 n ∧
   (a2 + b2 + (a1 + b1 + (a0 + b0) / 18446744073709551616) / 18446744073709551616) % 18446744073709551616 = l2 n ∧
   (a3 + b3 + (a2 + b2 + (a1 + b1 + (a0 + b0) / 18446744073709551616) / 18446744073709551616) / 18446744073709551616) % 18446744073709551616 = l3 n ∧
   (a3 + b3 + (a2 + b2 + (a1 + b1 + (a0 + b0) / 18446744073709551616) / 18446744073709551616) / 18446744073709551616) / 18446744073709551616 = n / MM := by
  subst hn
  unfold U4 U1 at _ha _hb; unfold vl l0 l1 l2 l3 MM
  omega

set_option maxHeartbeats 2000000 in
theorem addCarry_any (a0 a1 a2 a3 b0 b1 b2 b3 : Int) (w : World) (ha : U4 a0 a1 a2 a3) (hb : U4 b0 b1 b2 b3) :
    Calls Tryd.prog 93 #[.agg #[.int .u64 a0, .int .u64 a1, .int .u64 a2, .int .u64 a3], .agg #[.int .u64 b0, .int .u64 b1, .int .u64 b2, .int .u64 b3]] w fun e w' => 
      e = .returned (.tuple #[nv (vl a0 a1 a2 a3 + vl b0 b1 b2 b3), .int .u64 ((vl a0 a1 a2 a3 + vl b0 b1 b2 b3) / MM)]) ∧ Mo w w' := by
  have ha' := ha
  have hb' := hb
  obtain ⟨⟨p0, q0⟩, ⟨p1, q1⟩, ⟨p2, q2⟩, ⟨p3, q3⟩⟩ := ha'
  obtain ⟨⟨r0, s0⟩, ⟨r1, s1⟩, ⟨r2, s2⟩, ⟨r3, s3⟩⟩ := hb'
  have k1 : 0 ≤ (a0 + b0) / 18446744073709551616 := by omega
  have k1' : (a0 + b0) / 18446744073709551616 ≤ 1 := by omega
  have k2 : 0 ≤ (a1 + b1 + (a0 + b0) / 18446744073709551616) / 18446744073709551616 := by omega
  have k2' : (a1 + b1 + (a0 + b0) / 18446744073709551616) / 18446744073709551616 ≤ 1 := by omega
  have k3 : 0 ≤ (a2 + b2 + (a1 + b1 + (a0 + b0) / 18446744073709551616) / 18446744073709551616) / 18446744073709551616 := by omega
  have k3' : (a2 + b2 + (a1 + b1 + (a0 + b0) / 18446744073709551616) / 18446744073709551616) / 18446744073709551616 ≤ 1 := by omega
  go_enter Tryd.func93, Tryd.ntmps93
  go_wp2
  refine wp_loop_rounds 5 ?_
  rw [rounds_succ]
  go_wp2
  go_region_held3 (fun w' => w'.cell? ⟨w.heap.size, 0, none⟩ = some (.int .u64 a0) ∧ w'.cell? ⟨w.heap.size + 1, 0, none⟩ = some (.int .u64 b0)) (simp [go_sem, World.cell?_alloc_past])
    (first | simp only [add64_0 a0 b0 p0 r0])
  go_wp2
  rw [rounds_succ]
  go_wp2
  go_region_held3 (fun w' => w'.cell? ⟨w.heap.size, 1, none⟩ = some (.int .u64 a1) ∧ w'.cell? ⟨w.heap.size + 1, 1, none⟩ = some (.int .u64 b1)) (simp [go_sem, World.cell?_alloc_past])
    (first | simp only [add64 a1 b1 _ p1 r1 k1 k1'])
  go_wp2
  rw [rounds_succ]
  go_wp2
  go_region_held3 (fun w' => w'.cell? ⟨w.heap.size, 2, none⟩ = some (.int .u64 a2) ∧ w'.cell? ⟨w.heap.size + 1, 2, none⟩ = some (.int .u64 b2)) (simp [go_sem, World.cell?_alloc_past])
    (first | simp only [add64 a2 b2 _ p2 r2 k2 k2'])
  go_wp2
  rw [rounds_succ]
  go_wp2
  go_region_held3 (fun w' => w'.cell? ⟨w.heap.size, 3, none⟩ = some (.int .u64 a3) ∧ w'.cell? ⟨w.heap.size + 1, 3, none⟩ = some (.int .u64 b3)) (simp [go_sem, World.cell?_alloc_past])
    (first | simp only [add64 a3 b3 _ p3 r3 k3 k3'])
  go_wp2
  rw [rounds_succ]
  go_wp2
  refine bodyPost_ret (by simp [results, Tryd.results93, go_sem]; rfl) rfl ?_
  obtain ⟨e0, e1, e2, e3, e4⟩ := addc_eq ha hb rfl
  rw [nv_of e0 e1 e2 e3, e4]
  refine ⟨rfl, ?_⟩
  repeat (first | exact Mo.refl _ | apply Mo.drew | apply Mo.alloc)

theorem subc_eq {a0 a1 a2 a3 b0 b1 b2 b3 n c1 c2 c3 : Int} (_ha : U4 a0 a1 a2 a3) (_hb : U4 b0 b1 b2 b3) (hn : n = vl a0 a1 a2 a3 - vl b0 b1 b2 b3) (h1 : c1 = bw a0 b0 0) (h2 : c2 = bw a1 b1 c1) (h3 : c3 = bw a2 b2 c2) :
   (a0 - b0) % 18446744073709551616 = l0 (n % MM) ∧ (a1 - b1 - c1) % 18446744073709551616 = l1 (n % MM) ∧ (a2 - b2 - c2) % 18446744073709551616 = l2 (n % MM) ∧ (a3 - b3 - c3) % 18446744073709551616 = l3 (n % MM) ∧ bw a3 b3 c3 = -(n / MM) := by
  subst hn
  unfold bw at *
  unfold U4 U1 at _ha _hb; unfold vl l0 l1 l2 l3 MM
  omega

set_option maxHeartbeats 2000000 in
theorem subBorrow_any (a0 a1 a2 a3 b0 b1 b2 b3 : Int) (w : World) (ha : U4 a0 a1 a2 a3) (hb : U4 b0 b1 b2 b3) :
    Calls Tryd.prog 95 #[.agg #[.int .u64 a0, .int .u64 a1, .int .u64 a2, .int .u64 a3], .agg #[.int .u64 b0, .int .u64 b1, .int .u64 b2, .int .u64 b3]] w fun e w' =>
      e = .returned (.tuple #[nv ((vl a0 a1 a2 a3 - vl b0 b1 b2 b3) % MM), .int .u64 (-((vl a0 a1 a2 a3 - vl b0 b1 b2 b3) / MM))]) ∧ Mo w w' := by
  have ha' := ha
  have hb' := hb
  obtain ⟨⟨p0, q0⟩, ⟨p1, q1⟩, ⟨p2, q2⟩, ⟨p3, q3⟩⟩ := ha'
  obtain ⟨⟨r0, s0⟩, ⟨r1, s1⟩, ⟨r2, s2⟩, ⟨r3, s3⟩⟩ := hb'
  obtain ⟨k1, k1'⟩ := bw_bd p0 q0 r0 s0 (Int.le_refl 0) (by decide)
  obtain ⟨k2, k2'⟩ := bw_bd p1 q1 r1 s1 k1 k1'
  obtain ⟨k3, k3'⟩ := bw_bd p2 q2 r2 s2 k2 k2'
  go_enter Tryd.func95, Tryd.ntmps95
  go_wp2
  refine wp_loop_rounds 5 ?_
  rw [rounds_succ]
  go_wp2
  go_region_held3 (fun w' => w'.cell? ⟨w.heap.size, 0, none⟩ = some (.int .u64 a0) ∧ w'.cell? ⟨w.heap.size + 1, 0, none⟩ = some (.int .u64 b0)) (simp [go_sem, World.cell?_alloc_past])
    (first | simp only [sub64_0 a0 b0 p0 q0 r0 s0])
  go_wp2
  rw [rounds_succ]
  go_wp2
  go_region_held3 (fun w' => w'.cell? ⟨w.heap.size, 1, none⟩ = some (.int .u64 a1) ∧ w'.cell? ⟨w.heap.size + 1, 1, none⟩ = some (.int .u64 b1)) (simp [go_sem, World.cell?_alloc_past])
    (first | simp only [sub64 a1 b1 _ p1 q1 r1 s1 k1 k1'])
  go_wp2
  rw [rounds_succ]
  go_wp2
  go_region_held3 (fun w' => w'.cell? ⟨w.heap.size, 2, none⟩ = some (.int .u64 a2) ∧ w'.cell? ⟨w.heap.size + 1, 2, none⟩ = some (.int .u64 b2)) (simp [go_sem, World.cell?_alloc_past])
    (first | simp only [sub64 a2 b2 _ p2 q2 r2 s2 k2 k2'])
  go_wp2
  rw [rounds_succ]
  go_wp2
  go_region_held3 (fun w' => w'.cell? ⟨w.heap.size, 3, none⟩ = some (.int .u64 a3) ∧ w'.cell? ⟨w.heap.size + 1, 3, none⟩ = some (.int .u64 b3)) (simp [go_sem, World.cell?_alloc_past])
    (first | simp only [sub64 a3 b3 _ p3 q3 r3 s3 k3 k3'])
  go_wp2
  rw [rounds_succ]
  go_wp2
  refine bodyPost_ret (by simp [results, Tryd.results95, go_sem]; rfl) rfl ?_
  obtain ⟨e0, e1, e2, e3, e4⟩ := subc_eq ha hb rfl rfl rfl rfl
  rw [nv_of e0 e1 e2 e3, e4]
  refine ⟨rfl, ?_⟩
  repeat (first | exact Mo.refl _ | apply Mo.drew | apply Mo.alloc)
end Go.Proofs.YtdcojpbgijkmgaaDoor
